package calendar

import (
	"iter"
	"slices"

	"allonge/api"
)

// reach is how many days after a day the next open one is looked for.
const reach = 400

// offices is what the lists of a city say, in a form in which a day is found at once.
type offices struct {
	rest   [7]bool
	feasts [12][32]bool // by the month, from 0 on, and the day of the month
	shut   []int        // in order
}

// officesOf returns the offices of a city.
func officesOf(c api.City) offices {
	var o offices
	for _, n := range c.Rest {
		if 0 <= n && n < len(o.rest) {
			o.rest[n] = true
		}
	}
	for _, n := range c.Feasts {
		month, dom := n/100-1, n%100
		if 0 <= month && month < len(o.feasts) && dom < len(o.feasts[month]) {
			o.feasts[month][dom] = true
		}
	}
	o.shut = slices.Clone(c.Shut)
	slices.Sort(o.shut)
	return o
}

// open reports whether a day is open.
func (o *offices) open(day int) bool {
	if o.rest[weekday(day)] {
		return false
	}
	month, dom := split(day)
	if o.feasts[month%12][dom] {
		return false
	}
	_, shut := slices.BinarySearch(o.shut, day)
	return !shut
}

// days gives the open days from the day from to the day to, one after the other.
func (o *offices) days(from, to int) iter.Seq[int] {
	return func(yield func(int) bool) {
		for day := from; day <= to; day++ {
			if o.open(day) && !yield(day) {
				return
			}
		}
	}
}

// next returns the first open day from a day on, if it is within reach.
func (o *offices) next(day int) (int, api.Errno) {
	if !isDay(day) {
		return 0, api.ErrRange
	}
	for next := range o.days(day, min(day+reach, api.MaxDay)) {
		return next, api.OK
	}
	return 0, api.ErrRange
}
