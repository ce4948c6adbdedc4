package tenor

import (
	"allonge/api"
	"allonge/calendar"
	"allonge/realm"
)

// base returns the day from which the days of grace of a bill run, which may prove to be no day.
func base(r api.Realm, b api.Bill, seen int) (int, api.Errno) {
	if Sights(b.Tenor) && seen == api.None {
		return 0, api.ErrNone
	}
	switch b.Tenor.Kind {
	case api.TnSight:
		return seen, api.OK
	case api.TnAfterSight:
		return after(b.Tenor, seen)
	case api.TnAfterDate:
		return after(b.Tenor, b.Day)
	case api.TnUsance:
		days, e := realm.Usance(r, b.City, b.Pay)
		return b.Day + days, e
	}
	return b.Tenor.N, api.OK
}

// after returns what is N days, or months, after a day, which may prove to be no day.
func after(t api.Tenor, day int) (int, api.Errno) {
	if !isPeriod(t.N) {
		return 0, api.ErrRange
	}
	if t.Unit == api.UnMonths {
		return calendar.AddMonths(day, t.N)
	}
	return day + t.N, api.OK
}

// settle replaces a day by later ones as long as it is halted, or closed, in a city. A number after MaxDay ends this too: it lies in no halt, and calendar.Next refuses it.
func settle(r api.Realm, city, day int) (int, api.Errno) {
	for {
		if last, ok := halted(r, city, day); ok {
			day = last + 1
			continue
		}
		next, e := calendar.Next(r.Cities[city], day)
		if e != api.OK {
			return 0, api.ErrRange
		}
		if next == day {
			return day, api.OK
		}
		day = next
	}
}

// halted returns the last day of a halt in which a day lies in a city. Which one of several it is does not matter: a day after one of them that lies in another one is halted as well.
func halted(r api.Realm, city, day int) (last int, ok bool) {
	order := realm.OrderAt(r, city)
	for _, h := range r.Halts {
		if h.Order == order && within(day, h.From, h.To) {
			return h.To, true
		}
	}
	return 0, false
}
