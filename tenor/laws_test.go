package tenor_test

import (
	"math/rand"
	"reflect"
	"slices"
	"sync"
	"testing"
	"time"

	"allonge/api"
	"allonge/calendar"
	"allonge/tenor"
)

// dice makes realms and bills by chance, always the same ones.
type dice struct{ *rand.Rand }

func newDice() dice {
	return dice{rand.New(rand.NewSource(11))}
}

// some returns up to n different numbers, ascending, from lo on, but less than hi.
func (d dice) some(n, lo, hi int) []int {
	var l []int
	for range d.Intn(n + 1) {
		l = append(l, lo+d.Intn(hi-lo))
	}
	slices.Sort(l)
	return slices.Compact(l)
}

// origin returns the first one of the days at which a realm is looked at.
func (d dice) origin() int {
	switch d.Intn(4) {
	case 0:
		return 0
	case 1:
		return api.MaxDay - 150
	}
	return d.Intn(api.MaxDay - 1000)
}

// realm returns a right realm with halts and closed days among the 200 days from a day on.
func (d dice) realm(origin int) api.Realm {
	r := api.Realm{Currencies: []string{"franc"}, Orders: []api.Order{{Name: "geneva"}, {Name: "london"}}}
	end := min(origin+200, api.MaxDay+1)
	for _, name := range []string{"Lyon", "London", "Basel"}[:1+d.Intn(3)] {
		c := api.City{Name: name, Order: d.Intn(2), Rest: d.some(3, 0, 7), Shut: d.some(40, origin, end)}
		for _, day := range d.some(20, origin, end) {
			_, month, dom, _ := calendar.Date(day)
			c.Feasts = append(c.Feasts, 100*month+dom)
		}
		slices.Sort(c.Feasts)
		c.Feasts = slices.Compact(c.Feasts)
		if d.Intn(8) == 0 {
			d.deserted(&c, origin)
		}
		r.Cities = append(r.Cities, c)
	}
	for range d.Intn(12) {
		from := origin + d.Intn(end-origin)
		r.Halts = append(r.Halts, api.Halt{Order: d.Intn(2), From: from, To: min(from+d.Intn(1+d.Intn(30)), api.MaxDay)})
	}
	for from := range r.Cities {
		for to := range r.Cities {
			if d.Intn(3) > 0 {
				r.Usances = append(r.Usances, api.Usance{From: from, To: to, Days: d.edge(1, 60)})
			}
		}
	}
	return r
}

// deserted closes a city for about as long as calendar.Next looks ahead.
func (d dice) deserted(c *api.City, origin int) {
	c.Rest, c.Feasts, c.Shut = []int{0, 1, 2, 4, 5, 6}, nil, nil
	first := origin + d.Intn(40)
	for day := first; day < first+350+d.Intn(80) && day <= api.MaxDay; day++ {
		if n, _ := calendar.Weekday(day); n == 3 {
			c.Shut = append(c.Shut, day)
		}
	}
}

// edge returns a number from lo to hi, often one at an end.
func (d dice) edge(lo, hi int) int {
	switch d.Intn(6) {
	case 0:
		return lo
	case 1:
		return hi
	}
	return lo + d.Intn(hi-lo+1)
}

// near returns one of the days at which a realm is looked at.
func (d dice) near(origin int) int {
	return origin + d.Intn(min(200, api.MaxDay+1-origin))
}

// bill returns a bill whose arguments for Due are right. Bills in months are drawn and seen close to the first day.
func (d dice) bill(r api.Realm, origin int) api.Bill {
	b := api.Bill{Day: d.near(origin), City: d.Intn(len(r.Cities)), Pay: d.Intn(len(r.Cities))}
	b.Tenor = api.Tenor{Kind: d.Intn(api.TnKinds), N: d.edge(0, 60), Unit: d.Intn(api.UnKinds)}
	switch {
	case b.Tenor.Kind == api.TnFixed:
		b.Tenor.N = d.near(origin)
	case b.Tenor.Unit == api.UnMonths:
		b.Tenor.N = d.edge(0, 5)
	}
	return b
}

// seen returns a day on which a bill was seen, or None.
func (d dice) seen(origin int) int {
	if d.Intn(5) == 0 {
		return api.None
	}
	return d.near(origin)
}

// modelOpen reports whether a day is open in a city, by the library's calendar.
func modelOpen(c api.City, day int) bool {
	date := time.Date(2000, 1, 1+day, 0, 0, 0, 0, time.UTC)
	return !slices.Contains(c.Rest, (int(date.Weekday())+6)%7) &&
		!slices.Contains(c.Feasts, 100*int(date.Month())+date.Day()) && !slices.Contains(c.Shut, day)
}

// modelHalted reports whether a day is halted in a city.
func modelHalted(r api.Realm, city, day int) bool {
	return slices.ContainsFunc(r.Halts, func(h api.Halt) bool {
		return h.Order == r.Cities[city].Order && h.From <= day && day <= h.To
	})
}

// modelSettle goes from day to day: since is the closed day for which calendar.Next is looking, if it is.
func modelSettle(r api.Realm, city, day int) (int, api.Errno) {
	since := api.None
	for ; day <= api.MaxDay; day++ {
		open := modelOpen(r.Cities[city], day)
		if open {
			since = api.None
		}
		switch {
		case since != api.None && day-since > 400:
			return 0, api.ErrRange
		case since != api.None || modelHalted(r, city, day):
			continue
		case open:
			return day, api.OK
		}
		since = day
	}
	return 0, api.ErrRange
}

// modelAfter returns N days, or months, after a day, by the library's calendar.
func modelAfter(t api.Tenor, day int) int {
	if t.Unit == api.UnDays {
		return day + t.N
	}
	start := time.Date(2000, 1, 1, 0, 0, 0, 0, time.UTC)
	date := start.AddDate(0, 0, day)
	last := time.Date(date.Year(), date.Month()+time.Month(t.N)+1, 0, 0, 0, 0, 0, time.UTC)
	until := time.Date(last.Year(), last.Month(), min(date.Day(), last.Day()), 0, 0, 0, 0, time.UTC)
	return int(until.Unix()-start.Unix()) / (24 * 60 * 60)
}

// modelBase returns the base of a bill, if there is neither ErrArg nor ErrNone, and its period is in range.
func modelBase(r api.Realm, b api.Bill, seen int) int {
	usance := map[[2]int]int{}
	for _, u := range r.Usances {
		usance[[2]int{u.From, u.To}] = u.Days
	}
	return [...]func() int{
		api.TnSight:      func() int { return seen },
		api.TnAfterSight: func() int { return modelAfter(b.Tenor, seen) },
		api.TnAfterDate:  func() int { return modelAfter(b.Tenor, b.Day) },
		api.TnFixed:      func() int { return b.Tenor.N },
		api.TnUsance:     func() int { return b.Day + usance[[2]int{b.City, b.Pay}] },
	}[b.Tenor.Kind]()
}

// modelDue returns what Due returns in a right realm.
func modelDue(r api.Realm, b api.Bill, seen, grace int) (int, api.Errno) {
	outside := func(n, end int) bool { return n < 0 || n >= end }
	k := b.Tenor.Kind
	switch {
	case outside(b.City, len(r.Cities)), outside(b.Pay, len(r.Cities)), outside(b.Day, 100001), outside(k, 5),
		outside(b.Tenor.Unit, 2), outside(seen+1, 100002), outside(grace, 20001):
		return 0, api.ErrArg
	case k < 2 && seen == -1:
		return 0, api.ErrNone
	case k == 4 && !slices.ContainsFunc(r.Usances, func(u api.Usance) bool { return u.From == b.City && u.To == b.Pay }):
		return 0, api.ErrNone
	case (k == 1 || k == 2) && outside(b.Tenor.N, 20001):
		return 0, api.ErrRange
	}
	base := modelBase(r, b, seen)
	if outside(base, 100001) || base+grace > 100000 {
		return 0, api.ErrRange
	}
	return modelSettle(r, b.Pay, base+grace)
}

// each calls a function with realms, and the first one of the days at which they are looked at.
func each(t *testing.T, n int, f func(d dice, r api.Realm, origin int)) {
	t.Helper()
	d := newDice()
	for range n {
		origin := d.origin()
		f(d, d.realm(origin), origin)
		if t.Failed() {
			return
		}
	}
}

// P11.2: Settle is what the definition says.
func TestSettleModel(t *testing.T) {
	results := map[api.Errno]int{}
	moved := 0
	each(t, 600, func(d dice, r api.Realm, origin int) {
		for city := range r.Cities {
			for range 12 {
				day := d.near(origin)
				want, e := modelSettle(r, city, day)
				checkSettle(t, r, city, day, want, e)
				results[e]++
				if e == api.OK && want > day+7 {
					moved++
				}
			}
		}
		if t.Failed() {
			t.Logf("%+v", r)
		}
	})
	if results[api.OK] < 1000 || results[api.ErrRange] < 200 || moved < 500 {
		t.Errorf("%v, %d moved far: too few of a kind", results, moved)
	}
}

// spoil changes numbers of what Due is called with.
func (d dice) spoil(b *api.Bill, seen, grace *int) {
	bounds := []int{-1, 0, 1, 2, 3, 4, 5, api.MaxDays, api.MaxDays + 1, api.MaxDay, api.MaxDay + 1, -2, 1 << 62, -1 << 62}
	l := []*int{&b.City, &b.Pay, &b.Day, &b.Tenor.Kind, &b.Tenor.N, &b.Tenor.N, &b.Tenor.Unit, seen, grace}
	for range 1 + d.Intn(2) {
		*l[d.Intn(len(l))] = bounds[d.Intn(len(bounds))]
	}
}

// P11.3: Due is what the definition says, and its first error is the one that the chapter names first.
func TestDueModel(t *testing.T) {
	results := map[[2]int]int{}
	each(t, 1500, func(d dice, r api.Realm, origin int) {
		for i := range 12 {
			b, seen, grace := d.bill(r, origin), d.seen(origin), d.edge(0, 12)
			if i%2 == 1 {
				d.spoil(&b, &seen, &grace)
			}
			want, e := modelDue(r, b, seen, grace)
			checkDue(t, r, b, seen, grace, want, e)
			results[[2]int{b.Tenor.Kind, int(e)}]++
		}
		if t.Failed() {
			t.Logf("%+v", r)
		}
	})
	for kind := range api.TnKinds {
		for _, e := range []api.Errno{api.OK, api.ErrArg, api.ErrNone, api.ErrRange} {
			never := e == api.ErrNone && (kind == api.TnAfterDate || kind == api.TnFixed)
			if n := results[[2]int{kind, int(e)}]; n < 30 && !never {
				t.Errorf("kind %d: the result %d was met %d times only", kind, e, n)
			}
		}
	}
}

// P11.5: the day on which a bill is due is open and not halted, and all days between the base with the days of grace and it are closed or halted.
func TestDueTheorem(t *testing.T) {
	n := 0
	each(t, 600, func(d dice, r api.Realm, origin int) {
		for range 12 {
			b, seen, grace := d.bill(r, origin), d.seen(origin), d.edge(0, 12)
			due, e := tenor.Due(r, b, seen, grace)
			if e != api.OK {
				continue
			}
			n++
			free := func(day int) bool {
				open, e := calendar.Open(r.Cities[b.Pay], day)
				return e == api.OK && open && !modelHalted(r, b.Pay, day)
			}
			first := modelBase(r, b, seen) + grace
			if due < first || !free(due) {
				t.Errorf("%+v is due on %d, and not before %d, in %+v", b, due, first, r)
			}
			for day := first; day < due; day++ {
				if free(day) {
					t.Errorf("%+v is due on %d, and could be on %d, in %+v", b, due, day, r)
				}
			}
		}
	})
	if n < 1000 {
		t.Errorf("only %d bills are due", n)
	}
}

// checkNotEarlier compares the days on which two bills are due, if they are.
func checkNotEarlier(t *testing.T, name string, first int, e api.Errno, second int, f api.Errno) bool {
	t.Helper()
	if e != api.OK || f != api.OK {
		return false
	}
	if second < first {
		t.Errorf("%s: due on %d instead of %d", name, second, first)
	}
	return true
}

// P11.6: a bill that is seen later, or has more days of grace, is not due earlier.
func TestLaterAndMoreGrace(t *testing.T) {
	n := 0
	each(t, 600, func(d dice, r api.Realm, origin int) {
		for range 8 {
			b, seen, grace := d.bill(r, origin), d.near(origin), d.edge(0, 12)
			first, e := tenor.Due(r, b, seen, grace)
			for range 6 {
				later, more := min(seen+d.Intn(40), api.MaxDay), grace+d.Intn(20)
				second, f := tenor.Due(r, b, later, grace)
				third, g := tenor.Due(r, b, seen, more)
				if checkNotEarlier(t, "seen later", first, e, second, f) && checkNotEarlier(t, "more grace", first, e, third, g) {
					n++
				}
				if !tenor.Sights(b.Tenor) && (second != first || f != e) {
					t.Errorf("%+v is due on %d or %d, as it is seen", b, first, second)
				}
			}
		}
	})
	if n < 1000 {
		t.Errorf("only %d bills were compared", n)
	}
}

// P11.6: a further halt, or a further day on which the city of payment is closed, makes no bill due earlier.
func TestFurtherHaltsAndClosedDays(t *testing.T) {
	compared, moved := 0, 0
	each(t, 600, func(d dice, r api.Realm, origin int) {
		for range 8 {
			b, seen, grace := d.bill(r, origin), d.near(origin), d.edge(0, 12)
			first, e := tenor.Due(r, b, seen, grace)
			for _, further := range d.further(r, b.Pay, origin) {
				second, f := tenor.Due(further, b, seen, grace)
				if checkNotEarlier(t, "closed or halted further", first, e, second, f) {
					compared++
				}
				if f == api.OK && second > first {
					moved++
				}
			}
		}
	})
	if compared < 1000 || moved < 300 {
		t.Errorf("%d bills were compared, and %d are due later", compared, moved)
	}
}

// further returns realms with a further halt, or a further closed day or weekday of a city.
func (d dice) further(r api.Realm, city, origin int) []api.Realm {
	from := d.near(origin)
	halted := copied(r)
	halted.Halts = slices.Insert(halted.Halts, d.Intn(len(r.Halts)+1), api.Halt{Order: r.Cities[city].Order, From: from, To: min(from+d.Intn(60), api.MaxDay)})
	shut, rest, feast := copied(r), copied(r), copied(r)
	_, month, dom, _ := calendar.Date(from)
	for l, n := range map[*[]int]int{&shut.Cities[city].Shut: from, &rest.Cities[city].Rest: d.Intn(7), &feast.Cities[city].Feasts: 100*month + dom} {
		*l = append(*l, n)
		slices.Sort(*l)
		*l = slices.Compact(*l)
	}
	return []api.Realm{halted, shut, rest, feast}
}

// P11.7: a period after date, the same usance, and the day on which it ends lead to the same day.
func TestSameDays(t *testing.T) {
	n := 0
	each(t, 600, func(d dice, r api.Realm, origin int) {
		for range 8 {
			b, seen, grace := d.bill(r, origin), d.seen(origin), d.edge(0, 12)
			days := d.edge(1, 60)
			usual := copied(r)
			usual.Usances = append(slices.DeleteFunc(usual.Usances, func(u api.Usance) bool { return u.From == b.City && u.To == b.Pay }), api.Usance{From: b.City, To: b.Pay, Days: days})
			var due [3]int
			var e [3]api.Errno
			for i, t := range []api.Tenor{after(days), {Kind: api.TnUsance}, fixed(b.Day + days)} {
				b.Tenor = t
				due[i], e[i] = tenor.Due(usual, b, seen, grace)
			}
			if due[1] != due[0] || due[2] != due[0] || e[1] != e[0] || e[2] != e[0] {
				t.Errorf("%d days after %d: %v, %v", days, b.Day, due, e)
			}
			if e[0] == api.OK {
				n++
			}
		}
	})
	if n < 1000 {
		t.Errorf("only %d bills are due", n)
	}
}

// P11.7: a day that Settle returns is settled, and so is the day on which a bill is due.
func TestSettledDays(t *testing.T) {
	each(t, 600, func(d dice, r api.Realm, origin int) {
		for range 8 {
			city, day := d.Intn(len(r.Cities)), d.near(origin)
			if to, e := tenor.Settle(r, city, day); e == api.OK {
				checkSettle(t, r, city, to, to, api.OK)
			}
			b := d.bill(r, origin)
			if due, e := tenor.Due(r, b, day, d.edge(0, 12)); e == api.OK {
				checkSettle(t, r, b.Pay, due, due, api.OK)
			}
		}
	})
}

// copied returns a realm whose lists of cities, usances and halts share no memory with those of another one.
func copied(r api.Realm) api.Realm {
	r.Cities, r.Orders = slices.Clone(r.Cities), slices.Clone(r.Orders)
	for i, c := range r.Cities {
		r.Cities[i].Rest, r.Cities[i].Feasts, r.Cities[i].Shut = slices.Clone(c.Rest), slices.Clone(c.Feasts), slices.Clone(c.Shut)
	}
	r.Usances, r.Halts = slices.Clone(r.Usances), slices.Clone(r.Halts)
	return r
}

// roomy returns a list with an element beyond its length.
func roomy[T any](l []T, beyond T) []T {
	return append(slices.Clip(l), beyond)[:len(l)]
}

// P11.4: no call changes a realm, or looks at what lies beyond the length of a list, and two calls have the same result.
func TestPure(t *testing.T) {
	each(t, 200, func(d dice, r api.Realm, origin int) {
		other := copied(r)
		other.Cities = roomy(other.Cities, api.City{Name: "beyond"})
		for i, c := range r.Cities {
			other.Cities[i].Rest = roomy(c.Rest, 6)
			other.Cities[i].Shut = roomy(c.Shut, origin+100)
		}
		other.Usances = roomy(other.Usances, api.Usance{From: 0, To: 0, Days: 7})
		other.Halts = roomy(other.Halts, api.Halt{To: api.MaxDay})
		before := copied(other)
		checkSettle(t, other, len(r.Cities), origin, 0, api.ErrArg)
		for range 8 {
			city, day, grace := d.Intn(len(r.Cities)), d.near(origin), d.edge(0, 12)
			b := d.bill(r, origin)
			settled, e := tenor.Settle(r, city, day)
			due, f := tenor.Due(r, b, day, grace)
			for range 2 {
				checkSettle(t, other, city, day, settled, e)
				checkDue(t, other, b, day, grace, due, f)
			}
		}
		if !reflect.DeepEqual(other, before) {
			t.Errorf("the realm is now %+v, and was %+v", other, before)
		}
		if n := len(other.Halts); other.Halts[:n+1][n] != (api.Halt{To: api.MaxDay}) {
			t.Error("the halt beyond was changed")
		}
	})
}

// P4: calls at the same time have the same results.
func TestAtTheSameTime(t *testing.T) {
	r := fair()
	var group sync.WaitGroup
	for range 8 {
		group.Go(func() {
			for range 100 {
				checkSettle(t, r, lyon, 20, 31, api.OK)
				checkDue(t, r, api.Bill{Tenor: after(3), Day: 3}, api.None, 1, 9, api.OK)
			}
		})
	}
	group.Wait()
}
