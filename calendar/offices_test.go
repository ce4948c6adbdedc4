package calendar_test

import (
	"math"
	"math/rand"
	"slices"
	"testing"

	"allonge/api"
	"allonge/calendar"
)

// The days of the week, for a city that is never open.
var allWeek = []int{0, 1, 2, 3, 4, 5, 6}

// isOpen tells whether a day is open, by the definition and the library's calendar.
func isOpen(c api.City, day int) bool {
	date := dateOf(day)
	weekday := (int(date.Weekday()) + 6) % 7
	return !slices.Contains(c.Rest, weekday) && !slices.Contains(c.Feasts, 100*int(date.Month())+date.Day()) && !slices.Contains(c.Shut, day)
}

// nextOpen tells what Next returns, by the definition.
func nextOpen(c api.City, day int) (int, api.Errno) {
	for n := range 401 {
		if _, e := given(day + n); e != api.OK {
			return 0, e
		}
		if isOpen(c, day+n) {
			return day + n, api.OK
		}
	}
	return 0, api.ErrRange
}

// plusOpen tells what Plus returns, by the definition.
func plusOpen(c api.City, day, n int) (int, api.Errno) {
	for range n {
		next, e := nextOpen(c, day+1)
		if e != api.OK {
			return 0, e
		}
		day = next
	}
	return given(day)
}

// days returns the days from one to another.
func days(from, to int) []int {
	var l []int
	for day := from; day <= to; day++ {
		l = append(l, day)
	}
	return l
}

// feastsBut returns all dates but one.
func feastsBut(date int) []int {
	var l []int
	for f := 101; f <= 1231; f++ {
		if f != date {
			l = append(l, f)
		}
	}
	return l
}

func checkOpen(t *testing.T, c api.City, day int, want bool, wantE api.Errno) {
	t.Helper()
	if got, e := calendar.Open(c, day); got != want || e != wantE {
		t.Errorf("Open(%v, %d) = %v, %d, want %v, %d", c, day, got, e, want, wantE)
	}
}

func checkNext(t *testing.T, c api.City, day, want int, wantE api.Errno) {
	t.Helper()
	if got, e := calendar.Next(c, day); got != want || e != wantE {
		t.Errorf("Next(%v, %d) = %d, %d, want %d, %d", c, day, got, e, want, wantE)
	}
}

func checkPlus(t *testing.T, c api.City, day, n, want int, wantE api.Errno) {
	t.Helper()
	if got, e := calendar.Plus(c, day, n); got != want || e != wantE {
		t.Errorf("Plus(%v, %d, %d) = %d, %d, want %d, %d", c, day, n, got, e, want, wantE)
	}
}

func checkCount(t *testing.T, c api.City, from, to, want int, wantE api.Errno) {
	t.Helper()
	if got, e := calendar.Count(c, from, to); got != want || e != wantE {
		t.Errorf("Count(%v, %d, %d) = %d, %d, want %d, %d", c, from, to, got, e, want, wantE)
	}
}

// P4.3: each list closes its days and no others.
func TestOpen(t *testing.T) {
	week := api.City{Rest: []int{5, 6}}
	feasts := api.City{Feasts: []int{101, 229, 301, 1231, 1016}}
	shut := api.City{Shut: []int{api.MaxDay, 7, 0, 3, 7}}
	for _, c := range []struct {
		city api.City
		day  int
		want bool
	}{
		{api.City{}, 0, true}, {api.City{}, api.MaxDay, true}, {api.City{Rest: allWeek}, 0, false}, {api.City{Rest: allWeek}, api.MaxDay, false},
		{week, 0, false}, {week, 1, false}, {week, 2, true}, {week, 6, true}, {week, 7, false}, {week, api.MaxDay - 6, true}, {week, api.MaxDay - 5, false}, {week, api.MaxDay - 4, false}, {week, api.MaxDay - 3, true}, {week, api.MaxDay, true},
		{feasts, 0, false}, {feasts, 1, true}, {feasts, 366, false}, {feasts, 58, true}, {feasts, 59, false}, {feasts, 60, false}, {feasts, 61, true}, {feasts, 424, true}, {feasts, 425, false}, {feasts, 365, false}, {feasts, 364, true}, {feasts, 730, false}, {feasts, api.MaxDay, false}, {feasts, api.MaxDay - 1, true},
		{shut, 0, false}, {shut, 1, true}, {shut, 3, false}, {shut, 4, true}, {shut, 6, true}, {shut, 7, false}, {shut, 8, true}, {shut, 366, true}, {shut, api.MaxDay - 1, true}, {shut, api.MaxDay, false},
	} {
		checkOpen(t, c.city, c.day, c.want, api.OK)
	}
	for _, day := range noDays {
		for _, c := range []api.City{{}, week, feasts, shut, {Shut: noDays}} {
			checkOpen(t, c, day, false, api.ErrRange)
		}
	}
}

// P4.3: numbers that are no weekdays, dates or days play no part; what else a city says neither.
func TestNoPart(t *testing.T) {
	odd := slices.Concat(noDays, []int{-7, -6, -5, 7, 8, 13, 1 << 32, 1<<32 + 5, 1 << 61, math.MinInt + 5, math.MinInt + 6})
	c := api.City{Name: "Lyon", Order: 5, Currency: 101, Rest: odd, Feasts: slices.Concat(odd, []int{-101, -99, -1, 0, 1, 5, 6, 31, 99, 100, 132, 200, 230, 231, 299, 300, 431, 1131, 1200, 1232, 1299, 1300, 1301, 1331, 9999, 10101, 20000101, math.MinInt + 101, math.MaxInt - 99}), Shut: odd[:11]}
	for day := range 1500 {
		checkOpen(t, c, day, true, api.OK)
		checkNext(t, c, day, day, api.OK)
	}
	for day := api.MaxDay - 400; day <= api.MaxDay; day++ {
		checkOpen(t, c, day, true, api.OK)
	}
	checkCount(t, c, 0, api.MaxDay, api.MaxDay+1, api.OK)
	checkPlus(t, c, 0, api.MaxDays, api.MaxDays, api.OK)
}

// P4.4: the first open day from a day on.
func TestNext(t *testing.T) {
	example := api.City{Rest: []int{5, 6}, Feasts: []int{101}}
	for _, c := range [][2]int{{0, 2}, {1, 2}, {2, 2}, {3, 3}, {6, 6}, {7, 9}, {8, 9}, {9, 9}, {365, 367}, {366, 367}} {
		checkNext(t, example, c[0], c[1], api.OK)
	}
	last := api.City{Shut: []int{api.MaxDay, api.MaxDay - 1, api.MaxDay - 2}}
	checkNext(t, last, api.MaxDay-3, api.MaxDay-3, api.OK)
	for day := api.MaxDay - 2; day <= api.MaxDay; day++ {
		checkNext(t, last, day, 0, api.ErrRange)
	}
	checkNext(t, api.City{}, api.MaxDay, api.MaxDay, api.OK)
	checkNext(t, api.City{Shut: []int{api.MaxDay - 1}}, api.MaxDay-1, api.MaxDay, api.OK)
	for _, day := range []int{0, 1, 50000, api.MaxDay - 400, api.MaxDay - 5, api.MaxDay} {
		checkNext(t, api.City{Rest: allWeek}, day, 0, api.ErrRange)
	}
	for _, day := range noDays {
		checkNext(t, example, day, 0, api.ErrRange)
		checkNext(t, api.City{}, day, 0, api.ErrRange)
	}
}

// P4.4: the 400th day after a day is looked at, the one after it is not.
func TestReach(t *testing.T) {
	for _, day := range []int{0, 1, 777, api.MaxDay - 402, api.MaxDay - 401} {
		checkNext(t, api.City{Shut: days(day, day+398)}, day, day+399, api.OK)
		checkNext(t, api.City{Shut: days(day, day+399)}, day, day+400, api.OK)
		checkNext(t, api.City{Shut: days(day, day+400)}, day, 0, api.ErrRange)
		checkNext(t, api.City{Shut: days(day, day+400)}, day+1, day+401, api.OK)
	}
	checkNext(t, api.City{Shut: days(api.MaxDay-400, api.MaxDay-1)}, api.MaxDay-400, api.MaxDay, api.OK)
	// Only the 29ths of February are open, which are days 59 and 1520.
	leap := api.City{Feasts: feastsBut(229)}
	checkNext(t, leap, 0, 59, api.OK)
	checkNext(t, leap, 59, 59, api.OK)
	checkNext(t, leap, 60, 0, api.ErrRange)
	checkNext(t, leap, 1119, 0, api.ErrRange)
	checkNext(t, leap, 1120, 1520, api.OK)
	checkCount(t, leap, 0, 59, 1, api.OK)
	checkCount(t, leap, 60, 1519, 0, api.OK)
	// From 2000 on every fourth year has one, but for 2100 and 2200.
	checkCount(t, leap, 0, api.MaxDay, 69-2, api.OK)
}

// P4.5: the n-th open day after a day.
func TestPlus(t *testing.T) {
	example := api.City{Rest: []int{5, 6}, Feasts: []int{101}}
	for _, c := range [][3]int{{0, 0, 0}, {0, 1, 2}, {0, 5, 6}, {0, 6, 9}, {1, 0, 1}, {1, 1, 2}, {2, 0, 2}, {2, 1, 3}, {6, 1, 9}, {7, 0, 7}, {7, 1, 9}, {364, 1, 367}} {
		checkPlus(t, example, c[0], c[1], c[2], api.OK)
	}
	always, never := api.City{}, api.City{Rest: allWeek}
	for _, c := range []struct {
		city         api.City
		day, n, want int
		e            api.Errno
	}{
		{always, 0, 1, 1, api.OK}, {always, 0, api.MaxDays, api.MaxDays, api.OK}, {always, 0, api.MaxDays + 1, 0, api.ErrRange}, {always, 0, -1, 0, api.ErrRange}, {always, 50000, -1, 0, api.ErrRange}, {always, 50000, math.MinInt, 0, api.ErrRange}, {always, 50000, math.MaxInt, 0, api.ErrRange},
		{always, api.MaxDay - api.MaxDays, api.MaxDays, api.MaxDay, api.OK}, {always, api.MaxDay - api.MaxDays + 1, api.MaxDays, 0, api.ErrRange}, {always, api.MaxDay, 0, api.MaxDay, api.OK}, {always, api.MaxDay, 1, 0, api.ErrRange}, {always, api.MaxDay - 1, 1, api.MaxDay, api.OK}, {always, api.MaxDay - 1, 2, 0, api.ErrRange},
		{never, 5, 0, 5, api.OK}, {never, 5, 1, 0, api.ErrRange}, {never, 5, api.MaxDays, 0, api.ErrRange}, {never, api.MaxDay, 0, api.MaxDay, api.OK}, {never, 0, 0, 0, api.OK}, {never, 5, -1, 0, api.ErrRange}, {never, 5, api.MaxDays + 1, 0, api.ErrRange},
		{api.City{Rest: []int{1, 2, 3, 4, 5, 6}}, 0, 14000, 2 + 7*13999, api.OK}, {api.City{Rest: []int{1, 2, 3, 4, 5, 6}}, 0, 14286, 2 + 7*14285, api.OK}, {api.City{Rest: []int{1, 2, 3, 4, 5, 6}}, 0, 14287, 0, api.ErrRange},
		{api.City{Feasts: feastsBut(1231)}, 0, 3, 365 * 3, api.OK},
	} {
		checkPlus(t, c.city, c.day, c.n, c.want, c.e)
	}
	for _, day := range noDays {
		for _, n := range []int{0, 1, -1, api.MaxDays} {
			checkPlus(t, always, day, n, 0, api.ErrRange)
		}
	}
}

// P4.5: the way to each open day is as long as Next looks.
func TestPlusReach(t *testing.T) {
	within := api.City{Shut: days(11, 410)}
	checkPlus(t, within, 10, 1, 411, api.OK)
	checkPlus(t, within, 9, 2, 411, api.OK)
	checkPlus(t, within, 9, 3, 412, api.OK)
	beyond := api.City{Shut: days(11, 411)}
	checkPlus(t, beyond, 10, 0, 10, api.OK)
	checkPlus(t, beyond, 10, 1, 0, api.ErrRange)
	checkPlus(t, beyond, 9, 1, 10, api.OK)
	checkPlus(t, beyond, 9, 2, 0, api.ErrRange)
	checkPlus(t, beyond, 9, 3, 0, api.ErrRange)
	checkPlus(t, beyond, 11, 1, 412, api.OK)
}

// P4.6: the open days from a day to another one, both included.
func TestCount(t *testing.T) {
	example := api.City{Rest: []int{5, 6}, Feasts: []int{101}}
	for _, c := range [][3]int{{0, 8, 5}, {0, 1, 0}, {0, 2, 1}, {2, 2, 1}, {2, 6, 5}, {3, 6, 4}, {2, 5, 4}, {7, 8, 0}, {7, 7, 0}, {5, 4, 0}, {9, 0, 0}, {api.MaxDay, 0, 0}, {363, 369, 4}} {
		checkCount(t, example, c[0], c[1], c[2], api.OK)
	}
	always := api.City{}
	for _, c := range [][3]int{{0, 0, 1}, {0, api.MaxDay, api.MaxDay + 1}, {api.MaxDay, api.MaxDay, 1}, {1, api.MaxDay, api.MaxDay}, {0, api.MaxDay - 1, api.MaxDay}, {api.MaxDay, api.MaxDay - 1, 0}, {1, 0, 0}} {
		checkCount(t, always, c[0], c[1], c[2], api.OK)
	}
	checkCount(t, api.City{Rest: allWeek}, 0, api.MaxDay, 0, api.OK)
	for _, day := range noDays {
		// The error comes first, also where to is less than from.
		for _, c := range [][2]int{{day, 3}, {3, day}, {day, day}, {day, -5}, {-5, day}, {day, api.MaxDay}, {0, day}} {
			checkCount(t, always, c[0], c[1], 0, api.ErrRange)
		}
	}
}

// dice makes cities by chance, always the same ones.
type dice struct{ *rand.Rand }

func newDice() dice {
	return dice{rand.New(rand.NewSource(4))}
}

// list returns some numbers, most of them from a range, and some around it.
func (d dice) list(length, from, to int) []int {
	var l []int
	for range d.Intn(length + 1) {
		if d.Intn(8) == 0 {
			l = append(l, noDays[d.Intn(len(noDays))])
		}
		l = append(l, from+d.Intn(to-from+1))
	}
	return l
}

// city returns a city of which something is closed close to a day.
func (d dice) city(day int) api.City {
	c := api.City{Rest: d.list(5, -2, 8), Feasts: d.list(40, 90, 1340), Shut: d.list(30, day-20, day+40)}
	if d.Intn(4) == 0 {
		from := day + d.Intn(30)
		c.Shut = append(c.Shut, days(from, from+380+d.Intn(40))...)
	}
	if d.Intn(12) == 0 {
		c.Rest = append(c.Rest, allWeek...)
	}
	return c
}

// day returns a day, often one of the first or of the last ones.
func (d dice) day() int {
	switch d.Intn(4) {
	case 0:
		return d.Intn(800)
	case 1:
		return api.MaxDay - d.Intn(800)
	}
	return d.Intn(api.MaxDay + 1)
}

// P4.3 to P4.6: what the definitions say, for many cities.
func TestManyCities(t *testing.T) {
	d := newDice()
	for range 1500 {
		day := d.day()
		c := d.city(day)
		for range 6 {
			from := min(max(day+d.Intn(60)-20, 0), api.MaxDay)
			checkOpen(t, c, from, isOpen(c, from), api.OK)
			want, e := nextOpen(c, from)
			checkNext(t, c, from, want, e)
			n := d.Intn(12)
			want, e = plusOpen(c, from, n)
			checkPlus(t, c, from, n, want, e)
			to, count := min(from+d.Intn(100), api.MaxDay), 0
			for day := from; day <= to; day++ {
				if isOpen(c, day) {
					count++
				}
			}
			checkCount(t, c, from, to, count, api.OK)
		}
		if t.Failed() {
			return
		}
	}
}

// P4.10: no open day between a day and the next one, n of them up to the n-th one, and counts in parts.
func TestOpenDays(t *testing.T) {
	d := newDice()
	for range 1500 {
		day := d.day()
		c := d.city(day)
		if next, e := calendar.Next(c, day); e == api.OK {
			checkOpen(t, c, next, true, api.OK)
			checkCount(t, c, day, next, 1, api.OK)
			checkNext(t, c, next, next, api.OK)
		}
		for _, n := range []int{1, 2, 7, 100} {
			if last, e := calendar.Plus(c, day, n); e == api.OK {
				checkOpen(t, c, last, true, api.OK)
				checkCount(t, c, min(day+1, api.MaxDay), last, n, api.OK)
			}
		}
		to := min(day+d.Intn(3000), api.MaxDay)
		whole, e := calendar.Count(c, day, to)
		cut := day + d.Intn(to-day+1)
		first, firstE := calendar.Count(c, day, cut)
		rest, restE := 0, api.OK
		if cut < to {
			rest, restE = calendar.Count(c, cut+1, to)
		}
		if e != api.OK || firstE != api.OK || restE != api.OK || first+rest != whole {
			t.Errorf("%v: %d open days from %d to %d, %d up to %d, %d later", c, whole, day, to, first, cut, rest)
		}
		if t.Failed() {
			return
		}
	}
}

// P4.7 and P3: lists are not modified, and what is behind their ends plays no part.
func TestArguments(t *testing.T) {
	rest, feasts, shut := []int{6, 5, 9, 0, 1, 2, 3, 4}, []int{1225, 101, -4, 101, 103, 104, 105}, []int{40, 3, 900, 3, -1, 9, 10, 11}
	c := api.City{Rest: rest[:3], Feasts: feasts[:4], Shut: shut[:5]}
	before := [3][]int{slices.Clone(rest), slices.Clone(feasts), slices.Clone(shut)}
	for range 2 {
		checkOpen(t, c, 2, true, api.OK)
		checkOpen(t, c, 3, false, api.OK)
		checkNext(t, c, 7, 9, api.OK)
		checkPlus(t, c, 0, 3, 5, api.OK)
		checkCount(t, c, 0, 12, 8, api.OK)
	}
	for i, l := range [3][]int{rest, feasts, shut} {
		if !slices.Equal(l, before[i]) {
			t.Errorf("list %d is %v, was %v", i, l, before[i])
		}
	}
	// Nothing of a call is kept for the next one.
	shut[1], shut[3] = 2, 2
	checkOpen(t, c, 2, false, api.OK)
	checkOpen(t, c, 3, true, api.OK)
	checkNext(t, c, 0, 3, api.OK)
}

// P1: long lists, over all days.
func TestLongLists(t *testing.T) {
	l := days(-100000, 2*api.MaxDay)
	slices.Reverse(l)
	odd := slices.DeleteFunc(slices.Clone(l), func(day int) bool { return day%2 == 0 })
	checkCount(t, api.City{Shut: l}, 0, api.MaxDay, 0, api.OK)
	checkCount(t, api.City{Shut: odd}, 0, api.MaxDay, api.MaxDay/2+1, api.OK)
	checkPlus(t, api.City{Shut: odd, Rest: slices.Repeat([]int{7, -1}, 100000), Feasts: slices.Repeat([]int{1301, 0}, 100000)}, 0, api.MaxDays, 2*api.MaxDays, api.OK)
	checkNext(t, api.City{Rest: l}, 0, 0, api.ErrRange)
	checkNext(t, api.City{Feasts: l}, 0, 0, api.ErrRange)
}
