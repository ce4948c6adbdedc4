package tenor_test

import (
	"math"
	"strings"
	"testing"

	"allonge/api"
	"allonge/tenor"
)

// Numbers that are no index of any list here, nor in the range of any field.
var wild = []int{-2, -3, -1 << 32, math.MinInt, math.MinInt + 1, api.MaxDay + 1, 1 << 40, 1 << 62, math.MaxInt - 1, math.MaxInt}

// chapterRealm returns the realm of the chapter's examples.
func chapterRealm() api.Realm {
	return api.Realm{
		Currencies: []string{"franc"},
		Cities:     []api.City{{Name: "Lyon", Rest: []int{5, 6}}},
		Orders:     []api.Order{{Name: "geneva"}},
		Halts:      []api.Halt{{From: 20, To: 30}},
	}
}

// Cities of the realm fair.
const (
	lyon    = iota // in geneva; closed on Saturdays and Sundays, and on day 17
	london         // in london; closed on Sundays, and on 5 January
	basel          // in geneva; always open
	never          // in york; never open
	mondays        // in york; open on Mondays, but not on those from day 2 to day 401
	cities
)

// fair returns a realm of cities with different offices. Geneva's halts are listed later ones first.
func fair() api.Realm {
	closed := make([]int, 58)
	for i := range closed {
		closed[i] = 2 + 7*i
	}
	return api.Realm{
		Currencies: []string{"franc"},
		Cities: []api.City{
			lyon:    {Name: "Lyon", Rest: []int{5, 6}, Shut: []int{17}},
			london:  {Name: "London", Order: 1, Rest: []int{6}, Feasts: []int{105}},
			basel:   {Name: "Basel"},
			never:   {Name: "Never", Order: 2, Rest: []int{0, 1, 2, 3, 4, 5, 6}},
			mondays: {Name: "Mondays", Order: 2, Rest: []int{1, 2, 3, 4, 5, 6}, Shut: closed},
		},
		Orders:  []api.Order{{Name: "geneva"}, {Name: "london"}, {Name: "york"}},
		Usances: []api.Usance{{From: lyon, To: basel, Days: 60}, {From: basel, To: lyon, Days: 5}, {From: basel, To: basel, Days: 1}, {From: london, To: never, Days: 9}, {From: basel, To: london, Days: api.MaxDays}},
		Halts:   []api.Halt{{From: 45, To: 50}, {From: 20, To: 30}, {From: 40, To: 45}, {From: 41, To: 43}, {Order: 1, From: 60, To: 60}, {Order: 2, From: 3, To: 9}},
	}
}

// withHalt returns the realm fair with a further halt.
func withHalt(h api.Halt) api.Realm {
	r := fair()
	r.Halts = append(r.Halts, h)
	return r
}

func checkSettle(t *testing.T, r api.Realm, city, day, want int, e api.Errno) {
	t.Helper()
	if got, err := tenor.Settle(r, city, day); got != want || err != e {
		t.Errorf("Settle(%d, %d) = %d, %d, want %d, %d", city, day, got, err, want, e)
	}
}

func checkDue(t *testing.T, r api.Realm, b api.Bill, seen, grace, want int, e api.Errno) {
	t.Helper()
	if got, err := tenor.Due(r, b, seen, grace); got != want || err != e {
		t.Errorf("Due(%+v, %d, %d) = %d, %d, want %d, %d", b, seen, grace, got, err, want, e)
	}
}

// after is a tenor of N days after date.
func after(n int) api.Tenor { return api.Tenor{Kind: api.TnAfterDate, N: n} }

// fixed is the tenor of a bill that is payable on a day.
func fixed(day int) api.Tenor { return api.Tenor{Kind: api.TnFixed, N: day} }

// months is a tenor of N months.
func months(kind, n int) api.Tenor { return api.Tenor{Kind: kind, N: n, Unit: api.UnMonths} }

// P11.2, P11.3: the chapter's examples.
func TestChapterExamples(t *testing.T) {
	r := chapterRealm()
	sight := api.Tenor{Kind: api.TnAfterSight, N: 2}
	checkDue(t, r, api.Bill{Day: 3, Tenor: after(3)}, api.None, 0, 6, api.OK)
	checkDue(t, r, api.Bill{Day: 3, Tenor: after(3)}, api.None, 1, 9, api.OK)
	checkDue(t, r, api.Bill{Tenor: sight}, 4, 0, 6, api.OK)
	checkDue(t, r, api.Bill{Tenor: sight}, api.None, 0, 0, api.ErrNone)
	checkDue(t, r, api.Bill{Tenor: fixed(21)}, api.None, 0, 31, api.OK)
	checkDue(t, r, api.Bill{Tenor: fixed(14)}, api.None, 0, 16, api.OK)
	for day, want := range map[int]int{0: 2, 1: 2, 2: 2, 6: 6, 7: 9, 8: 9, 9: 9, 13: 13, 14: 16, 15: 16, 19: 19, 20: 31, 30: 31, 31: 31} {
		checkSettle(t, r, 0, day, want, api.OK)
	}
}

// P11.1: a bill has to be seen if it is payable at or after sight, whatever else its tenor says.
func TestSights(t *testing.T) {
	want := map[int]bool{api.TnSight: true, api.TnAfterSight: true}
	for kind := -3; kind < api.TnKinds+3; kind++ {
		for _, n := range append([]int{0, 1, 90}, wild...) {
			for _, unit := range append([]int{api.UnDays, api.UnMonths}, wild...) {
				if got := tenor.Sights(api.Tenor{Kind: kind, N: n, Unit: unit}); got != want[kind] {
					t.Errorf("Sights(%d, %d, %d) = %v", kind, n, unit, got)
				}
			}
		}
	}
	for _, kind := range wild {
		if tenor.Sights(api.Tenor{Kind: kind}) {
			t.Errorf("Sights of the kind %d", kind)
		}
	}
}

// P11.2: days that are closed or halted are replaced by later ones, as often as it takes.
func TestSettle(t *testing.T) {
	r := fair()
	for _, c := range [][3]int{
		// Closed days: the weekend, a single day, a feast.
		{lyon, 0, 2}, {lyon, 1, 2}, {lyon, 2, 2}, {lyon, 6, 6}, {lyon, 7, 9}, {lyon, 16, 16}, {lyon, 17, 18}, {lyon, 18, 18},
		{london, 0, 0}, {london, 1, 2}, {london, 4, 5}, {london, 17, 17}, {basel, 0, 0}, {basel, 7, 7}, {basel, 17, 17},
		// A halt, from its first to its last day, in the cities of its order only.
		{lyon, 19, 19}, {lyon, 20, 31}, {lyon, 21, 31}, {lyon, 30, 31}, {lyon, 31, 31}, {basel, 20, 31}, {basel, 30, 31}, {london, 20, 20}, {london, 30, 30},
		{london, 59, 59}, {london, 60, 61}, {london, 61, 61}, {basel, 60, 60},
		// Halts that overlap, one within another one, and a weekend after the last one.
		{basel, 39, 39}, {basel, 40, 51}, {basel, 41, 51}, {basel, 44, 51}, {basel, 45, 51}, {basel, 50, 51}, {basel, 51, 51},
		{lyon, 38, 38}, {lyon, 39, 39}, {lyon, 40, 51}, {lyon, 43, 51}, {lyon, 49, 51}, {lyon, 52, 52},
		{basel, api.MaxDay, api.MaxDay}, {basel, api.MaxDay - 1, api.MaxDay - 1},
	} {
		checkSettle(t, r, c[0], c[1], c[2], api.OK)
	}
	// A weekend before a halt, and one after it; halts that follow each other, and one of a single day.
	checkSettle(t, withHalt(api.Halt{From: 9, To: 13}), lyon, 7, 16, api.OK)
	checkSettle(t, withHalt(api.Halt{From: 9, To: 16}), lyon, 7, 18, api.OK)
	checkSettle(t, withHalt(api.Halt{From: 31, To: 35}), lyon, 25, 37, api.OK)
	checkSettle(t, withHalt(api.Halt{From: 31, To: 31}), lyon, 20, 32, api.OK)
	checkSettle(t, withHalt(api.Halt{From: 0, To: 0}), basel, 0, 1, api.OK)
	checkSettle(t, withHalt(api.Halt{From: 20, To: 25}), basel, 22, 31, api.OK)
	checkSettle(t, withHalt(api.Halt{From: 0, To: api.MaxDay - 1}), basel, 7, api.MaxDay, api.OK)
	checkSettle(t, withHalt(api.Halt{Order: 2, From: 0, To: api.MaxDay}), basel, 7, 7, api.OK)
}

// P11.2: ErrRange, where a day is replaced by one after MaxDay, or calendar.Next returns an error.
func TestSettleRange(t *testing.T) {
	for _, day := range []int{0, 3, 9, 5000, api.MaxDay} {
		checkSettle(t, fair(), never, day, 0, api.ErrRange)
	}
	end := withHalt(api.Halt{From: api.MaxDay - 5, To: api.MaxDay})
	checkSettle(t, end, basel, api.MaxDay-6, api.MaxDay-6, api.OK)
	checkSettle(t, end, london, api.MaxDay-3, api.MaxDay-3, api.OK)
	for day := api.MaxDay - 5; day <= api.MaxDay; day++ {
		checkSettle(t, end, basel, day, 0, api.ErrRange)
	}
	// MaxDay is a Thursday.
	rest := fair()
	rest.Cities[basel].Rest = []int{3}
	checkSettle(t, rest, basel, api.MaxDay-1, api.MaxDay-1, api.OK)
	checkSettle(t, rest, basel, api.MaxDay, 0, api.ErrRange)
	rest.Cities[basel].Shut = []int{api.MaxDay - 1}
	checkSettle(t, rest, basel, api.MaxDay-1, 0, api.ErrRange)
	checkSettle(t, withHalt(api.Halt{From: 0, To: api.MaxDay}), basel, 0, 0, api.ErrRange)
}

// P11.2: calendar.Next looks 400 days ahead; a day that is halted leads to the day after the halt first.
func TestSettleFar(t *testing.T) {
	r := fair()
	checkSettle(t, r, mondays, 0, 0, api.ErrRange)
	checkSettle(t, r, mondays, 2, 0, api.ErrRange)
	for day := 3; day <= 12; day++ {
		checkSettle(t, r, mondays, day, 408, api.OK)
	}
	r.Halts = r.Halts[:len(r.Halts)-1]
	for day := 0; day < 8; day++ {
		checkSettle(t, r, mondays, day, 0, api.ErrRange)
	}
	checkSettle(t, r, mondays, 8, 408, api.OK)
	// What a halt leads to is looked at again, as is what a closed day leads to.
	r.Halts = append(r.Halts, api.Halt{Order: 2, From: 408, To: 408})
	checkSettle(t, r, mondays, 8, 415, api.OK)
	r.Halts = append(r.Halts, api.Halt{Order: 2, From: 415, To: 422})
	checkSettle(t, r, mondays, 8, 429, api.OK)
	r.Cities[mondays].Shut = append(r.Cities[mondays].Shut[:0:0], 429)
	checkSettle(t, r, mondays, 411, 436, api.OK)
}

// badRealms returns realms that are not right, with the different errors of realm.Check.
func badRealms() []api.Realm {
	var l []api.Realm
	for _, change := range []func(r *api.Realm){
		func(r *api.Realm) { r.Currencies[0] = "" },
		func(r *api.Realm) { r.Cities[basel].Name = "Lyon" },
		func(r *api.Realm) { r.Cities[never].Currency = 1 },
		func(r *api.Realm) { r.Cities[lyon].Rest = []int{6, 5} },
		func(r *api.Realm) { r.Cities[lyon].Order = 3 },
		func(r *api.Realm) { r.Orders[2].Name = strings.Repeat("n", api.MaxName+1) },
		func(r *api.Realm) { r.Usances[1].Days = 0 },
		func(r *api.Realm) { r.Rates = append(r.Rates, api.Rate{}) },
		func(r *api.Realm) { r.Groups = make([]api.Group, api.MaxGroups+1) },
		func(r *api.Realm) { r.Halts[1].Order = 3 },
		func(r *api.Realm) { r.Halts[2].To = 39 },
		func(r *api.Realm) { r.Halts[0].From = -1 },
		func(r *api.Realm) { r.Halts = make([]api.Halt, api.MaxHalts+1) },
		func(r *api.Realm) { *r = api.Realm{Cities: r.Cities} },
	} {
		r := fair()
		change(&r)
		l = append(l, r)
	}
	return l
}

// P11.2: ErrArg, before any other error, for a realm that is not right, for what is no city, and for what is no day.
func TestSettleArguments(t *testing.T) {
	r := fair()
	for _, n := range wild {
		checkSettle(t, r, n, 4, 0, api.ErrArg)
		checkSettle(t, r, basel, n, 0, api.ErrArg)
		checkSettle(t, r, never, n, 0, api.ErrArg)
		checkSettle(t, r, n, n, 0, api.ErrArg)
	}
	checkSettle(t, r, cities, 4, 0, api.ErrArg)
	checkSettle(t, r, api.None, 4, 0, api.ErrArg)
	checkSettle(t, r, basel, -1, 0, api.ErrArg)
	checkSettle(t, api.Realm{}, 0, 0, 0, api.ErrArg)
	for i, r := range badRealms() {
		if got, e := tenor.Settle(r, basel, 4); got != 0 || e != api.ErrArg {
			t.Errorf("realm %d: Settle = %d, %d", i, got, e)
		}
		if got, e := tenor.Settle(r, never, 4); got != 0 || e != api.ErrArg {
			t.Errorf("realm %d: Settle where it is never open = %d, %d", i, got, e)
		}
	}
}

// P11.3: the base of each kind of tenor.
func TestBases(t *testing.T) {
	r := fair()
	for _, c := range []struct {
		tenor           api.Tenor
		day, seen, want int
	}{
		{api.Tenor{Kind: api.TnSight}, 100, 200, 200},
		{api.Tenor{Kind: api.TnSight}, 100, 3, 3},
		{api.Tenor{Kind: api.TnSight}, 100, 0, 0},
		{api.Tenor{Kind: api.TnSight}, 0, api.MaxDay, api.MaxDay},
		{api.Tenor{Kind: api.TnAfterSight, N: 7}, 100, 200, 207},
		{api.Tenor{Kind: api.TnAfterSight}, 100, 200, 200},
		{api.Tenor{Kind: api.TnAfterSight, N: api.MaxDays}, 100, 200, 20200},
		{months(api.TnAfterSight, 1), 100, 59, 88},
		{months(api.TnAfterSight, 0), 100, 59, 59},
		{months(api.TnAfterSight, 1), 59, 91, 121},
		{after(7), 100, 200, 107},
		{after(7), 100, api.None, 107},
		{after(0), 100, 200, 100},
		{after(api.MaxDays), 100, 200, 20100},
		{after(api.MaxDays), api.MaxDay - api.MaxDays, 5, api.MaxDay},
		{months(api.TnAfterDate, 1), 59, api.None, 88},
		// 31 January, one month and thirteen months later: 29 February 2000, 28 February 2001.
		{months(api.TnAfterDate, 1), 30, api.None, 59},
		{months(api.TnAfterDate, 13), 30, api.None, 424},
		{months(api.TnAfterDate, 12*200), 0, 99, 73049},
		{fixed(150), 100, api.None, 150},
		{fixed(99), 100, 98, 99},
		{fixed(0), api.MaxDay, 98, 0},
		{fixed(api.MaxDay), 100, 98, api.MaxDay},
		{api.Tenor{Kind: api.TnUsance}, 100, api.None, 101},
		{api.Tenor{Kind: api.TnUsance}, 100, 200, 101},
		{api.Tenor{Kind: api.TnUsance}, api.MaxDay - 1, api.None, api.MaxDay},
	} {
		checkDue(t, r, api.Bill{Tenor: c.tenor, Day: c.day, City: basel, Pay: basel}, c.seen, 0, c.want, api.OK)
	}
	// A usance has a direction.
	checkDue(t, r, api.Bill{Tenor: api.Tenor{Kind: api.TnUsance}, Day: 100, City: lyon, Pay: basel}, 3, 0, 160, api.OK)
	checkDue(t, r, api.Bill{Tenor: api.Tenor{Kind: api.TnUsance}, Day: 100, City: basel, Pay: lyon}, 3, 0, 107, api.OK)
	checkDue(t, r, api.Bill{Tenor: api.Tenor{Kind: api.TnUsance}, Day: 3, City: basel, Pay: london}, 3, 0, 20003, api.OK)
}

// P11.3: the base and the days of grace together are settled, in the city of payment, once.
func TestGrace(t *testing.T) {
	r := fair()
	for _, c := range [][4]int{
		{lyon, 6, 0, 6}, {lyon, 6, 1, 9}, {lyon, 6, 2, 9}, {lyon, 6, 3, 9}, {lyon, 6, 4, 10},
		{lyon, 7, 0, 9}, {lyon, 7, 2, 9}, {lyon, 7, 3, 10}, {lyon, 0, 3, 3}, {lyon, 10, 7, 18},
		{lyon, 20, 0, 31}, {lyon, 20, 10, 31}, {lyon, 20, 11, 31}, {lyon, 20, 12, 32}, {lyon, 19, 1, 31}, {lyon, 19, 19, 38},
		{london, 1, 0, 2}, {london, 1, 1, 2}, {london, 1, 3, 5}, {london, 20, 0, 20}, {london, 59, 1, 61},
		{basel, 0, 0, 0}, {basel, 0, 3, 3}, {basel, 30, 9, 39}, {basel, 30, 10, 51}, {basel, 0, api.MaxDays, api.MaxDays},
		{basel, api.MaxDay - api.MaxDays, api.MaxDays, api.MaxDay}, {basel, api.MaxDay, 0, api.MaxDay}, {basel, api.MaxDay - 1, 1, api.MaxDay},
	} {
		for city := range cities {
			checkDue(t, r, api.Bill{Tenor: fixed(c[1]), City: city, Pay: c[0]}, api.None, c[2], c[3], api.OK)
			checkDue(t, r, api.Bill{Tenor: api.Tenor{Kind: api.TnSight}, City: city, Pay: c[0]}, c[1], c[2], c[3], api.OK)
		}
	}
}

// P11.3: nothing else of the bill counts, nor do N and Unit of a tenor that has none.
func TestWhatDoesNotCount(t *testing.T) {
	r := fair()
	for _, n := range append([]int{0, 1, api.None}, wild...) {
		b := api.Bill{Drawer: n, Drawee: n, Payee: n, Sum: n, Currency: n, Need: n, Rate: n, Flags: n, Parts: n, Day: 100, City: basel, Pay: basel}
		b.Tenor = api.Tenor{Kind: api.TnSight, N: n, Unit: api.UnMonths}
		checkDue(t, r, b, 200, 3, 203, api.OK)
		b.Tenor = api.Tenor{Kind: api.TnUsance, N: n, Unit: api.UnMonths}
		checkDue(t, r, b, 200, 3, 104, api.OK)
		b.Tenor = api.Tenor{Kind: api.TnFixed, N: 77, Unit: api.UnMonths}
		checkDue(t, r, b, 200, 3, 80, api.OK)
		b.Tenor = after(9)
		checkDue(t, r, b, 200, 3, 112, api.OK)
		b.Tenor = api.Tenor{Kind: api.TnAfterSight, N: 9}
		checkDue(t, r, b, 200, 3, 212, api.OK)
	}
}

// kinds returns a tenor of each kind, each due in the city basel.
func kinds() []api.Tenor {
	return []api.Tenor{{Kind: api.TnSight}, {Kind: api.TnAfterSight, N: 5}, after(5), fixed(60), {Kind: api.TnUsance}}
}

// P11.3: ErrArg for each argument that is out of its range, whatever the kind of the tenor.
func TestDueArguments(t *testing.T) {
	r := fair()
	for _, tn := range kinds() {
		right := api.Bill{Tenor: tn, Day: 100, City: basel, Pay: basel}
		if _, e := tenor.Due(r, right, 4, 0); e != api.OK {
			t.Fatalf("Due(%+v): %d", right, e)
		}
		for _, n := range wild {
			for i, field := range []*int{&right.City, &right.Pay, &right.Day, &right.Tenor.Kind, &right.Tenor.Unit} {
				before := *field
				for _, n := range []int{n, -1, []int{cities, cities, api.MaxDay + 1, api.TnKinds, api.UnKinds}[i]} {
					*field = n
					checkDue(t, r, right, 4, 0, 0, api.ErrArg)
				}
				*field = before
			}
			checkDue(t, r, right, n, 0, 0, api.ErrArg)
			checkDue(t, r, right, 4, n, 0, api.ErrArg)
		}
		checkDue(t, r, right, api.MaxDay+1, 0, 0, api.ErrArg)
		checkDue(t, r, right, 4, -1, 0, api.ErrArg)
		checkDue(t, r, right, 4, api.MaxDays+1, 0, api.ErrArg)
		for i, bad := range badRealms() {
			if got, e := tenor.Due(bad, right, 4, 0); got != 0 || e != api.ErrArg {
				t.Errorf("realm %d: Due(%+v) = %d, %d", i, right, got, e)
			}
		}
	}
	checkDue(t, api.Realm{}, api.Bill{}, 0, 0, 0, api.ErrArg)
}

// P11.3: ErrNone for a bill that has to be seen and was not, and where there is no usance.
func TestDueNone(t *testing.T) {
	r := fair()
	for _, tn := range []api.Tenor{{Kind: api.TnSight}, {Kind: api.TnAfterSight}, {Kind: api.TnAfterSight, N: 20}, months(api.TnAfterSight, 2)} {
		checkDue(t, r, api.Bill{Tenor: tn, Day: 4}, api.None, 0, 0, api.ErrNone)
	}
	for _, tn := range kinds()[2:] {
		if _, e := tenor.Due(r, api.Bill{Tenor: tn, Day: 4, City: basel}, api.None, 0); e != api.OK {
			t.Errorf("Due(%+v) of a bill that was not seen: %d", tn, e)
		}
	}
	for _, c := range [][2]int{{lyon, lyon}, {lyon, london}, {london, lyon}, {never, never}, {never, london}} {
		for _, seen := range []int{api.None, 4} {
			checkDue(t, r, api.Bill{Tenor: api.Tenor{Kind: api.TnUsance}, City: c[0], Pay: c[1]}, seen, 0, 0, api.ErrNone)
		}
	}
}

// P11.3: ErrRange for periods out of range, bases that are no days, and sums and settled days after MaxDay.
func TestDueRange(t *testing.T) {
	r := fair()
	at := func(tn api.Tenor, day int) api.Bill {
		return api.Bill{Tenor: tn, Day: day, City: basel, Pay: basel}
	}
	for _, kind := range []int{api.TnAfterSight, api.TnAfterDate} {
		for _, unit := range []int{api.UnDays, api.UnMonths} {
			for _, n := range append([]int{-1, api.MaxDays + 1, api.MaxDay}, wild...) {
				checkDue(t, r, at(api.Tenor{Kind: kind, N: n, Unit: unit}, 4), 4, 0, 0, api.ErrRange)
			}
		}
		checkDue(t, r, at(api.Tenor{Kind: kind, N: 1}, api.MaxDay), api.MaxDay, 0, 0, api.ErrRange)
		checkDue(t, r, at(months(kind, 1), api.MaxDay), api.MaxDay, 0, 0, api.ErrRange)
		checkDue(t, r, at(months(kind, api.MaxDays), 0), 0, 0, 0, api.ErrRange)
		checkDue(t, r, at(api.Tenor{Kind: kind, N: api.MaxDays}, api.MaxDay-api.MaxDays+1), api.MaxDay-api.MaxDays+1, 0, 0, api.ErrRange)
	}
	for _, n := range append([]int{-1}, wild...) {
		for _, grace := range []int{0, 1, 3, api.MaxDays} {
			checkDue(t, r, at(fixed(n), 4), api.None, grace, 0, api.ErrRange)
		}
	}
	checkDue(t, r, at(api.Tenor{Kind: api.TnUsance}, api.MaxDay), api.None, 0, 0, api.ErrRange)
	for _, c := range [][2]int{{api.MaxDay, 1}, {api.MaxDay - 1, 2}, {api.MaxDay - api.MaxDays + 1, api.MaxDays}, {api.MaxDay, api.MaxDays}} {
		checkDue(t, r, at(fixed(c[0]), 4), api.None, c[1], 0, api.ErrRange)
		checkDue(t, r, at(api.Tenor{Kind: api.TnSight}, 4), c[0], c[1], 0, api.ErrRange)
	}
	// What Settle returns.
	checkDue(t, r, api.Bill{Tenor: fixed(11), Pay: never}, api.None, 0, 0, api.ErrRange)
	checkDue(t, r, api.Bill{Tenor: api.Tenor{Kind: api.TnUsance}, City: london, Pay: never}, api.None, 0, 0, api.ErrRange)
	checkDue(t, withHalt(api.Halt{From: 70, To: api.MaxDay}), api.Bill{Tenor: fixed(69), Pay: basel}, api.None, 1, 0, api.ErrRange)
}

// P11.3: of several errors, ErrArg comes first, and then ErrNone.
func TestDueErrorOrder(t *testing.T) {
	r := fair()
	unseen := api.Tenor{Kind: api.TnAfterSight, N: -1}
	unusual := api.Tenor{Kind: api.TnUsance}
	checkDue(t, r, api.Bill{Tenor: unseen, Pay: never}, api.None, 0, 0, api.ErrNone)
	checkDue(t, r, api.Bill{Tenor: months(api.TnAfterSight, api.MaxDays), Day: 4}, api.None, api.MaxDays, 0, api.ErrNone)
	checkDue(t, r, api.Bill{Tenor: unusual, Day: api.MaxDay, Pay: never}, api.None, api.MaxDays, 0, api.ErrNone)
	for _, tn := range []api.Tenor{unseen, unusual, after(-1), fixed(-1)} {
		checkDue(t, r, api.Bill{Tenor: tn, Day: -1}, api.None, 0, 0, api.ErrArg)
		checkDue(t, r, api.Bill{Tenor: tn, City: cities}, api.None, 0, 0, api.ErrArg)
		checkDue(t, r, api.Bill{Tenor: tn, Pay: cities}, api.None, 0, 0, api.ErrArg)
		checkDue(t, r, api.Bill{Tenor: tn}, api.None, -1, 0, api.ErrArg)
		checkDue(t, r, api.Bill{Tenor: tn}, -2, 0, 0, api.ErrArg)
		checkDue(t, r, api.Bill{Tenor: api.Tenor{Kind: tn.Kind, N: tn.N, Unit: api.UnKinds}}, api.None, 0, 0, api.ErrArg)
	}
}
