package money_test

import (
	"math"
	"slices"
	"testing"

	"allonge/api"
	"allonge/money"
)

// The rates of the examples: 3 / 2 from the day 5 on, 2 / 1 from the day 9 on.
var rates = []api.Rate{
	{From: 0, To: 1, Num: 3, Den: 2, Since: 5},
	{From: 0, To: 1, Num: 2, Den: 1, Since: 9},
	{From: 0, To: 1, Num: 7, Den: 1, Since: 9},
	{From: 1, To: 2, Num: 5, Den: 3, Since: 0},
}

// pairRate returns the rate of a pair on a day, by the definition: no other rate of the pair is later, and no other one of the same day comes first.
func pairRate(rates []api.Rate, from, to, day int) (api.Rate, bool) {
	for i, r := range rates {
		best := r.From == from && r.To == to && r.Since <= day
		for j, s := range rates {
			if s.From == from && s.To == to && s.Since <= day && (s.Since > r.Since || s.Since == r.Since && j < i) {
				best = false
			}
		}
		if best {
			return r, true
		}
	}
	return api.Rate{}, false
}

// converted returns what Convert returns for arguments that are in range.
func converted(rates []api.Rate, sum, from, to, day int) (int, api.Errno) {
	if from == to {
		return sum, api.OK
	}
	if r, ok := pairRate(rates, from, to, day); ok {
		floor, _ := exactly(r.Den, sum, r.Num)
		return upTo(most, floor)
	}
	if r, ok := pairRate(rates, to, from, day); ok {
		floor, _ := exactly(r.Num, sum, r.Den)
		return upTo(most, floor)
	}
	return 0, api.ErrNone
}

func checkConvert(t *testing.T, rates []api.Rate, sum, from, to, day, want int, wantE api.Errno) {
	t.Helper()
	if got, e := money.Convert(rates, sum, from, to, day); got != want || e != wantE {
		t.Errorf("Convert(%v, %d, %d, %d, %d) = %d, %d, want %d, %d", rates, sum, from, to, day, got, e, want, wantE)
	}
}

// some returns rates of few pairs and days, so that several compete.
func (d dice) some() []api.Rate {
	l := make([]api.Rate, d.Intn(9))
	for i := range l {
		l[i] = api.Rate{From: d.Intn(3), To: d.Intn(3), Num: d.part(), Den: d.part(), Since: d.Intn(8) - 2}
	}
	return l
}

// P5.3: conversions by the rate of the pair, and by that of the opposite pair.
func TestConvert(t *testing.T) {
	for _, c := range []struct {
		sum, from, to, day, want int
		e                        api.Errno
	}{
		{100, 0, 1, 5, 150, api.OK}, {100, 0, 1, 4, 0, api.ErrNone}, {100, 0, 1, 0, 0, api.ErrNone}, {101, 0, 1, 8, 151, api.OK}, {0, 0, 1, 5, 0, api.OK}, {1, 0, 1, 5, 1, api.OK}, {3, 0, 1, 5, 4, api.OK},
		{100, 1, 0, 5, 66, api.OK}, {100, 1, 0, 4, 0, api.ErrNone}, {2, 1, 0, 5, 1, api.OK}, {1, 1, 0, 5, 0, api.OK}, {3, 1, 0, 8, 2, api.OK}, {0, 1, 0, 8, 0, api.OK},
		// A later rate replaces an earlier one; of two of the same day, the first one counts.
		{100, 0, 1, 9, 200, api.OK}, {100, 0, 1, 10, 200, api.OK}, {100, 0, 1, api.MaxDay, 200, api.OK}, {100, 1, 0, 9, 50, api.OK}, {101, 1, 0, api.MaxDay, 50, api.OK},
		{100, 1, 2, 0, 166, api.OK}, {100, 2, 1, 0, 60, api.OK},
		// There is no way over a third currency.
		{100, 0, 2, 9, 0, api.ErrNone}, {100, 2, 0, 9, 0, api.ErrNone}, {0, 0, 2, 9, 0, api.ErrNone}, {100, 0, 3, 9, 0, api.ErrNone}, {100, -1, 0, 9, 0, api.ErrNone},
		{7, 0, 0, 0, 7, api.OK}, {7, 3, 3, 0, 7, api.OK}, {most, 1, 1, api.MaxDay, most, api.OK}, {0, -5, -5, 9, 0, api.OK},
	} {
		checkConvert(t, rates, c.sum, c.from, c.to, c.day, c.want, c.e)
	}
	for _, l := range [][]api.Rate{nil, {}} {
		checkConvert(t, l, 7, 0, 1, 0, 0, api.ErrNone)
		checkConvert(t, l, 7, 1, 1, 0, 7, api.OK)
	}
}

// P5.3: the order of the rates plays no part, but for those of the same day; a rate of the pair goes before one of the opposite pair, however late that is.
func TestWhichRate(t *testing.T) {
	late := api.Rate{To: 1, Num: 3, Den: 1, Since: 20}
	early := api.Rate{To: 1, Num: 2, Den: 1, Since: 10}
	again := api.Rate{To: 1, Num: 5, Den: 1, Since: 20}
	back := api.Rate{From: 1, Num: 1, Den: 7, Since: 15}
	for _, c := range []struct {
		l         []api.Rate
		day, want int
		e         api.Errno
	}{
		{[]api.Rate{early, late}, 20, 30, api.OK}, {[]api.Rate{late, early}, 20, 30, api.OK}, {[]api.Rate{late, early}, 19, 20, api.OK}, {[]api.Rate{early, late}, 9, 0, api.ErrNone},
		{[]api.Rate{early, late, again}, 99, 30, api.OK}, {[]api.Rate{again, early, late}, 99, 50, api.OK}, {[]api.Rate{again, late}, 19, 0, api.ErrNone},
		{[]api.Rate{back, early}, 15, 20, api.OK}, {[]api.Rate{early, back}, 99, 20, api.OK}, {[]api.Rate{late, back}, 19, 70, api.OK}, {[]api.Rate{back, late}, 20, 30, api.OK}, {[]api.Rate{back, late}, 14, 0, api.ErrNone},
	} {
		checkConvert(t, c.l, 10, 0, 1, c.day, c.want, c.e)
	}
	// The same rates on the way back.
	checkConvert(t, []api.Rate{back, early}, 70, 1, 0, 15, 10, api.OK)
	checkConvert(t, []api.Rate{back, early}, 70, 1, 0, 14, 35, api.OK)
}

// P5.3: currencies and days of rates may be any numbers.
func TestAnyCurrency(t *testing.T) {
	for _, far := range []int{-1, -2, 8, 1 << 32, math.MinInt, math.MaxInt} {
		l := []api.Rate{{From: far, To: 5, Num: 3, Den: 2, Since: 7}, {From: 6, To: far, Num: 9, Den: 2, Since: math.MinInt}, {From: 6, To: far, Num: 1, Den: 1, Since: math.MaxInt}, {From: 9, To: far, Num: 1, Den: 1, Since: api.MaxDay + 1}}
		checkConvert(t, l, 10, far, 5, 7, 15, api.OK)
		checkConvert(t, l, 10, 5, far, 7, 6, api.OK)
		checkConvert(t, l, 10, far, 5, 6, 0, api.ErrNone)
		checkConvert(t, l, 10, 6, far, 0, 45, api.OK)
		checkConvert(t, l, 10, 6, far, api.MaxDay, 45, api.OK)
		checkConvert(t, l, 10, 9, far, api.MaxDay, 0, api.ErrNone)
		checkConvert(t, l, 10, far, far, 0, 10, api.OK)
		// A later Since that is less than 0 is still the later one.
		m := []api.Rate{{From: 6, To: far, Num: 2, Den: 1, Since: -9}, {From: 6, To: far, Num: 3, Den: 1, Since: -8}, {From: 6, To: far, Num: 4, Den: 1, Since: -10}}
		checkConvert(t, m, 10, 6, far, 0, 30, api.OK)
	}
	// A rate of a currency to itself converts nothing.
	checkConvert(t, []api.Rate{{From: 4, To: 4, Num: 2, Den: 1}}, 10, 4, 4, 0, 10, api.OK)
}

// P5.3: the greatest values; products have up to 70 bits, and quotients too.
func TestConvertLimit(t *testing.T) {
	const part = api.MaxRate
	for _, c := range []struct {
		num, den, sum, want int
		e                   api.Errno
	}{
		{1, 1, most, most, api.OK}, {part, part, most, most, api.OK}, {part, part - 1, most, 0, api.ErrRange}, {part - 1, part, most, most - 1024, api.OK}, {part - 1, part, most - 1, most - 1025, api.OK},
		{part, 1, 1024, most, api.OK}, {part, 1, 1025, 0, api.ErrRange}, {part, 1, most, 0, api.ErrRange}, {part, 2, most, 0, api.ErrRange}, {part, 1, most / 2, 0, api.ErrRange}, {part, 64, most, 0, api.ErrRange}, {part, 65, most, 0, api.ErrRange}, {part, 1, 1 << 34, 0, api.ErrRange}, {part, 1, 1<<34 - 1, 0, api.ErrRange}, {part, 3, 1 << 36, 0, api.ErrRange},
		{1, part, most, 1024, api.OK}, {1, part, most - 1, 1023, api.OK}, {1, part, part, 1, api.OK}, {1, part, part - 1, 0, api.OK}, {2, 1, most / 2, most, api.OK}, {2, 1, most/2 + 1, 0, api.ErrRange},
		// The value is more than MaxSum, and its floor is not.
		{3, 2, 733007751851, most, api.OK}, {3, 2, 733007751852, 0, api.ErrRange},
	} {
		checkConvert(t, []api.Rate{{To: 1, Num: c.num, Den: c.den}}, c.sum, 0, 1, 0, c.want, c.e)
		checkConvert(t, []api.Rate{{From: 1, Num: c.den, Den: c.num}}, c.sum, 0, 1, 0, c.want, c.e)
	}
}

// P5.3: each argument that is out of range is found, whatever the others are; ErrArg goes before all other results.
func TestConvertArguments(t *testing.T) {
	full := slices.Repeat([]api.Rate{{From: 0, To: 1, Num: 1, Den: 1}}, 101)
	pairs := [][2]int{{0, 1}, {1, 0}, {3, 3}, {0, 9}}
	for _, p := range pairs {
		for _, l := range [][]api.Rate{nil, rates, full[:100], {{To: 1, Num: api.MaxRate, Den: 1}}} {
			for _, n := range noSums {
				checkConvert(t, l, n, p[0], p[1], 9, 0, api.ErrArg)
			}
			for _, n := range noDays {
				for _, sum := range []int{0, 7, most} {
					checkConvert(t, l, sum, p[0], p[1], n, 0, api.ErrArg)
				}
			}
		}
		checkConvert(t, full, 7, p[0], p[1], 9, 0, api.ErrArg)
		for _, n := range []int{0, -1, -api.MaxRate, api.MaxRate + 1, 1 << 32, 1<<32 + 1, math.MinInt, math.MaxInt} {
			// The bad rate is not needed: it is one of another pair, of a later day, or replaced.
			for _, bad := range []api.Rate{{Num: n, Den: 1}, {Num: 1, Den: n}, {To: 1, Num: n, Den: n}, {From: 9, To: 8, Num: n, Den: 1, Since: 50}, {From: 0, To: 1, Num: 1, Den: n, Since: -5}} {
				checkConvert(t, []api.Rate{bad}, 7, p[0], p[1], 9, 0, api.ErrArg)
				checkConvert(t, append(slices.Clone(rates), bad), 7, p[0], p[1], 9, 0, api.ErrArg)
				checkConvert(t, append([]api.Rate{bad}, rates...), most, p[0], p[1], 9, 0, api.ErrArg)
			}
		}
	}
	checkConvert(t, full[:100], 7, 0, 1, 0, 7, api.OK)
	full[99].Num = 5
	full[99].Since = 1
	checkConvert(t, full[:100], 7, 0, 1, 1, 35, api.OK)
}

// P5.3: exact values by the rate of the definition, by the library's numbers.
func TestExactConvert(t *testing.T) {
	d := newDice()
	var times [api.ErrNone + 1]int
	for range 50000 {
		l, sum, from, to, day := d.some(), d.size(most), d.Intn(3), d.Intn(3), d.Intn(8)
		want, e := converted(l, sum, from, to, day)
		checkConvert(t, l, sum, from, to, day, want, e)
		times[e]++
		if t.Failed() {
			return
		}
	}
	if min(times[api.OK], times[api.ErrRange], times[api.ErrNone]) < 1000 {
		t.Errorf("only %v were checked", times)
	}
}

// P5.4 and P3: rates are not modified, and what is behind their end plays no part.
func TestRatesAsTheyWere(t *testing.T) {
	l := append(slices.Clone(rates), api.Rate{From: 0, To: 1, Num: 9, Den: 1, Since: 9}, api.Rate{}, api.Rate{From: 0, To: 2, Num: -1, Den: 1})
	slices.Reverse(l[:4])
	was := slices.Clone(l)
	for range 2 {
		checkConvert(t, l[:4], 100, 0, 1, 9, 700, api.OK)
		checkConvert(t, l[:4], 100, 1, 0, 5, 66, api.OK)
		checkConvert(t, l[:4], 100, 0, 2, 9, 0, api.ErrNone)
		checkConvert(t, l, 100, 0, 1, 9, 0, api.ErrArg)
	}
	if !slices.Equal(l, was) {
		t.Errorf("the rates are %v, were %v", l, was)
	}
	// Nothing of a call is kept for the next one.
	l[1].Num = 11
	checkConvert(t, l[:4], 100, 0, 1, 9, 1100, api.OK)
}

// P5.6: what is converted, and converted back by the same rate, is never more than it was.
func TestThereAndBack(t *testing.T) {
	d := newDice()
	checked := 0
	for range 50000 {
		l, sum := []api.Rate{{To: 1, Num: d.part(), Den: d.part()}}, d.size(most)
		for from := range 2 {
			there, e := money.Convert(l, sum, from, 1-from, 0)
			if e != api.OK {
				continue
			}
			checked++
			if back, e := money.Convert(l, there, 1-from, from, 0); back > sum || e != api.OK {
				t.Fatalf("%v: %d of %d is %d, and back %d, %d", l, sum, from, there, back, e)
			}
		}
	}
	if checked < 40000 {
		t.Errorf("only %d were checked", checked)
	}
}

// P5.7: rates of other pairs, and of later days, change nothing.
func TestOtherRates(t *testing.T) {
	d := newDice()
	for range 20000 {
		l, sum, from, to, day := d.some(), d.size(most), d.Intn(3), d.Intn(3), d.Intn(8)
		want, e := money.Convert(l, sum, from, to, day)
		var more []api.Rate
		for _, r := range append(slices.Clone(l), api.Rate{}) {
			switch d.Intn(3) {
			case 0:
				more = append(more, api.Rate{From: from, To: 3, Num: d.part(), Den: d.part()}, api.Rate{From: 3, To: to, Num: 1, Den: 1})
			case 1:
				more = append(more, api.Rate{From: from, To: to, Num: d.part(), Den: 1, Since: day + 1}, api.Rate{From: to, To: from, Num: 1, Den: d.part(), Since: math.MaxInt})
			}
			if r.Num > 0 {
				more = append(more, r)
			}
		}
		checkConvert(t, more, sum, from, to, day, want, e)
		more = slices.DeleteFunc(more, func(r api.Rate) bool {
			return r.Since > day || (r.From != from || r.To != to) && (r.From != to || r.To != from)
		})
		checkConvert(t, more, sum, from, to, day, want, e)
		if t.Failed() {
			return
		}
	}
}
