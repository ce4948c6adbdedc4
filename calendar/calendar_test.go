package calendar_test

import (
	"math"
	"testing"
	"time"

	"allonge/api"
	"allonge/calendar"
)

// Numbers that are no days, and numbers of months or days that are too great.
var noDays = []int{-1, -2, -400, api.MaxDay + 1, api.MaxDay + 2, 146097, math.MinInt, math.MinInt + 1, math.MaxInt, math.MaxInt - 1, math.MaxInt - 400}

// dateOf returns the date of a day by the library's calendar.
func dateOf(day int) time.Time {
	return time.Date(2000, 1, 1+day, 0, 0, 0, 0, time.UTC)
}

// dayOf returns the day of a date of the library's calendar, whether it is from 0 to MaxDay or not.
func dayOf(t time.Time) int {
	return int((t.Unix() - dateOf(0).Unix()) / (24 * 60 * 60))
}

// given returns what a call gives for a number that is the answer if it is a day.
func given(day int) (int, api.Errno) {
	if day < 0 || day > api.MaxDay {
		return 0, api.ErrRange
	}
	return day, api.OK
}

// P4.1: dates that are known, the first and the last day, and the 29ths of February.
func TestKnownDates(t *testing.T) {
	for _, c := range []struct{ day, year, month, dom, weekday int }{
		{0, 2000, 1, 1, 5}, {1, 2000, 1, 2, 6}, {2, 2000, 1, 3, 0}, {58, 2000, 2, 28, 0}, {59, 2000, 2, 29, 1}, {60, 2000, 3, 1, 2}, {365, 2000, 12, 31, 6}, {366, 2001, 1, 1, 0}, {424, 2001, 2, 28, 2}, {425, 2001, 3, 1, 3},
		{1461 + 59, 2004, 2, 29, 6}, {9819, 2026, 11, 19, 3}, {36525 + 58, 2100, 2, 28, 6}, {36525 + 59, 2100, 3, 1, 0}, {73049 + 58, 2200, 2, 28, 4}, {73049 + 59, 2200, 3, 1, 5},
		{99999, 2273, 10, 15, 2}, {api.MaxDay, 2273, 10, 16, 3},
	} {
		year, month, dom, e := calendar.Date(c.day)
		if year != c.year || month != c.month || dom != c.dom || e != api.OK {
			t.Errorf("Date(%d) = %d, %d, %d, %d, want %v", c.day, year, month, dom, e, c)
		}
		if day, e := calendar.Day(c.year, c.month, c.dom); day != c.day || e != api.OK {
			t.Errorf("Day(%d, %d, %d) = %d, %d, want %d", c.year, c.month, c.dom, day, e, c.day)
		}
		if weekday, e := calendar.Weekday(c.day); weekday != c.weekday || e != api.OK {
			t.Errorf("Weekday(%d) = %d, %d, want %d", c.day, weekday, e, c.weekday)
		}
	}
}

// P4.1 and P4.8: all days, by the library's calendar.
func TestAllDays(t *testing.T) {
	for day := range api.MaxDay + 1 {
		want := dateOf(day)
		year, month, dom, e := calendar.Date(day)
		if year != want.Year() || month != int(want.Month()) || dom != want.Day() || e != api.OK {
			t.Fatalf("Date(%d) = %d, %d, %d, %d, want %v", day, year, month, dom, e, want)
		}
		if back, e := calendar.Day(year, month, dom); back != day || e != api.OK {
			t.Fatalf("Day(%d, %d, %d) = %d, %d, want %d", year, month, dom, back, e, day)
		}
		// The library's weekdays begin with Sunday.
		if weekday, e := calendar.Weekday(day); weekday != (int(want.Weekday())+6)%7 || e != api.OK {
			t.Fatalf("Weekday(%d) = %d, %d, want that of %v", day, weekday, e, want)
		}
	}
}

// P4.8: later days have later dates, and seven days later it is the same weekday.
func TestOrderOfDays(t *testing.T) {
	for day := 1; day <= api.MaxDay; day++ {
		y, m, d, e := calendar.Date(day - 1)
		year, month, dom, f := calendar.Date(day)
		if e != api.OK || f != api.OK || 10000*y+100*m+d >= 10000*year+100*month+dom {
			t.Fatalf("day %d: %d, %d, %d, the day before: %d, %d, %d", day, year, month, dom, y, m, d)
		}
		before, e := calendar.Weekday(day - 1)
		weekday, f := calendar.Weekday(day)
		if e != api.OK || f != api.OK || weekday != (before+1)%7 {
			t.Fatalf("day %d: weekday %d, the day before: %d", day, weekday, before)
		}
		if day >= 7 {
			if week, e := calendar.Weekday(day - 7); e != api.OK || week != weekday {
				t.Fatalf("day %d: weekday %d, a week before: %d", day, weekday, week)
			}
		}
	}
}

// P4.1: numbers that are no days.
func TestNoDays(t *testing.T) {
	for _, day := range noDays {
		if year, month, dom, e := calendar.Date(day); year != 0 || month != 0 || dom != 0 || e != api.ErrRange {
			t.Errorf("Date(%d) = %d, %d, %d, %d", day, year, month, dom, e)
		}
		if weekday, e := calendar.Weekday(day); weekday != 0 || e != api.ErrRange {
			t.Errorf("Weekday(%d) = %d, %d", day, weekday, e)
		}
	}
}

// P4.1: dates that there are not, and dates before the first day and after the last one.
func TestNoDates(t *testing.T) {
	for year := 1995; year <= 2405; year++ {
		for month := -1; month <= 14; month++ {
			for dom := -1; dom <= 33; dom++ {
				date := time.Date(year, time.Month(month), dom, 0, 0, 0, 0, time.UTC)
				want, wantE := given(dayOf(date))
				if date.Year() != year || int(date.Month()) != month || date.Day() != dom {
					want, wantE = 0, api.ErrRange
				}
				if day, e := calendar.Day(year, month, dom); day != want || e != wantE {
					t.Fatalf("Day(%d, %d, %d) = %d, %d, want %d, %d", year, month, dom, day, e, want, wantE)
				}
			}
		}
	}
	far := []int{math.MinInt, math.MinInt + 1, -1 << 32, -2000, -1, 0, 32, 100, 1 << 32, math.MaxInt/12 + 1, math.MaxInt - 1, math.MaxInt}
	for _, n := range far {
		for _, date := range [][3]int{{n, 1, 1}, {2000, n, 1}, {2000, 1, n}, {n, n, n}, {2273, n, 31}, {2100, 2, n}} {
			if day, e := calendar.Day(date[0], date[1], date[2]); day != 0 || e != api.ErrRange {
				t.Errorf("Day(%v) = %d, %d", date, day, e)
			}
		}
	}
	// Wraparound must not bring a year back into the range.
	for _, n := range []int{-1, 274, 1 << 32, 1 << 60, 1 << 61, 1 << 62, math.MinInt, math.MaxInt / 12, math.MaxInt / 365, math.MaxInt} {
		if day, e := calendar.Day(2000+n, 1, 1); day != 0 || e != api.ErrRange {
			t.Errorf("Day(%d, 1, 1) = %d, %d", 2000+n, day, e)
		}
	}
}

// later returns what AddMonths returns, by the library's calendar.
func later(day, n int) (int, api.Errno) {
	if _, e := given(day); e != api.OK {
		return 0, e
	}
	date := dateOf(day)
	first := time.Date(date.Year(), date.Month()+time.Month(n), 1, 0, 0, 0, 0, time.UTC)
	last := first.AddDate(0, 1, -1)
	return given(dayOf(first) + min(date.Day(), last.Day()) - 1)
}

// checkMonths compares AddMonths with the library's calendar.
func checkMonths(t *testing.T, day, n int) {
	t.Helper()
	want, wantE := later(day, n)
	if got, e := calendar.AddMonths(day, n); got != want || e != wantE {
		t.Fatalf("AddMonths(%d, %d) = %d, %d, want %d, %d", day, n, got, e, want, wantE)
	}
}

// P4.2: ordinary months, shorter ones, and months at both ends.
func TestAddMonths(t *testing.T) {
	for _, c := range []struct {
		day, n, want int
		e            api.Errno
	}{
		{30, 0, 30, api.OK}, {30, 1, 59, api.OK}, {30, 2, 90, api.OK}, {30, 3, 120, api.OK}, {29, 1, 59, api.OK}, {28, 1, 59, api.OK}, {27, 1, 58, api.OK}, {59, -1, 28, api.OK}, {59, 12, 424, api.OK}, {59, 48, 1520, api.OK}, {30, 13, 424, api.OK}, {30, 12*100 + 1, 36525 + 58, api.OK}, {90, -1, 59, api.OK}, {90, -2, 30, api.OK}, {365, -11, 30, api.OK}, {366, -12, 0, api.OK}, {0, 12, 366, api.OK},
		{0, -1, 0, api.ErrRange}, {30, -1, 0, api.ErrRange}, {31, -1, 0, api.OK}, {31, -2, 0, api.ErrRange}, {366, -13, 0, api.ErrRange},
		// The last day is 16 October 2273.
		{api.MaxDay, 0, api.MaxDay, api.OK}, {api.MaxDay, 1, 0, api.ErrRange}, {api.MaxDay, -1, api.MaxDay - 30, api.OK}, {api.MaxDay - 30, 1, api.MaxDay, api.OK}, {api.MaxDay - 29, 1, 0, api.ErrRange}, {api.MaxDay - 15, 1, 0, api.ErrRange}, {api.MaxDay - 14, 0, api.MaxDay - 14, api.OK}, {15, 12*273 + 9, api.MaxDay, api.OK}, {16, 12*273 + 9, 0, api.ErrRange}, {0, 12*273 + 9, api.MaxDay - 15, api.OK}, {0, 12*273 + 10, 0, api.ErrRange}, {api.MaxDay, -12*273 - 9, 15, api.OK}, {api.MaxDay, -12*273 - 10, 0, api.ErrRange},
	} {
		if day, e := calendar.AddMonths(c.day, c.n); day != c.want || e != c.e {
			t.Errorf("AddMonths(%d, %d) = %d, %d, want %d, %d", c.day, c.n, day, e, c.want, c.e)
		}
	}
	for day := range api.MaxDay + 1 {
		for _, n := range []int{-240, -12, -1, 0, 1, 2, 6, 13, 1200} {
			checkMonths(t, day, n)
		}
	}
	for n := -3300; n <= 3300; n++ {
		for _, day := range []int{0, 14, 28, 30, 58, 59, 60, 36524, 36525 + 58, 50000, api.MaxDay - 30, api.MaxDay} {
			checkMonths(t, day, n)
		}
	}
}

// P4.2: numbers that are no days, and so many months that an int wraps around.
func TestNoMonths(t *testing.T) {
	far := append([]int{-4800, 4800, -100001, 100000, 1 << 32, -1 << 32, 1 << 60, 1 << 61, 1 << 62, -1 << 62, math.MaxInt / 12, math.MinInt / 12}, noDays[3:]...)
	for _, n := range far {
		for _, day := range []int{0, 1, 59, 50000, api.MaxDay} {
			if got, e := calendar.AddMonths(day, n); got != 0 || e != api.ErrRange {
				t.Errorf("AddMonths(%d, %d) = %d, %d", day, n, got, e)
			}
		}
	}
	for _, day := range noDays {
		for _, n := range append(far, -1, 0, 1, 12) {
			if got, e := calendar.AddMonths(day, n); got != 0 || e != api.ErrRange {
				t.Errorf("AddMonths(%d, %d) = %d, %d", day, n, got, e)
			}
		}
	}
}

// P4.9: up to the 28th, months can be added one after the other, and be taken back.
func TestMonthsInSteps(t *testing.T) {
	for day := range api.MaxDay + 1 {
		_, _, dom, _ := calendar.Date(day)
		if dom > 28 {
			continue
		}
		for _, c := range [][2]int{{1, 1}, {1, 11}, {5, 8}, {-1, 1}, {-3, -9}, {600, -599}} {
			step, e := calendar.AddMonths(day, c[0])
			if e != api.OK {
				continue
			}
			got, e := calendar.AddMonths(step, c[1])
			want, wantE := calendar.AddMonths(day, c[0]+c[1])
			if got != want || e != wantE {
				t.Fatalf("day %d, %v months: %d, %d in two steps, %d, %d in one", day, c, got, e, want, wantE)
			}
		}
	}
}

// P4.9: a later day does not lead to an earlier one.
func TestMonthsInOrder(t *testing.T) {
	for _, n := range []int{-13, -1, 0, 1, 2, 12, 37} {
		before := 0
		for day := range api.MaxDay + 1 {
			got, e := calendar.AddMonths(day, n)
			if e != api.OK {
				continue
			}
			if got < before {
				t.Fatalf("AddMonths(%d, %d) = %d, after %d", day, n, got, before)
			}
			before = got
		}
	}
}
