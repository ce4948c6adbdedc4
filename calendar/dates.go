package calendar

import "allonge/api"

// The years of the first and the last day.
const (
	firstYear = 2000
	lastYear  = firstYear + api.MaxDay/365
)

// The days of a common year that are before each month.
var before = [12]int{0, 31, 59, 90, 120, 151, 181, 212, 243, 273, 304, 334}

// isDay reports whether a number is a day.
func isDay(day int) bool {
	return 0 <= day && day <= api.MaxDay
}

// give returns a number, if it is a day.
func give(day int) (int, api.Errno) {
	if !isDay(day) {
		return 0, api.ErrRange
	}
	return day, api.OK
}

// weekday returns the weekday of a day: day 0 is a Saturday.
func weekday(day int) int {
	return (day + 5) % 7
}

// split returns the month of a day, counted from the first one, which is 0, and the day of the month.
func split(day int) (month, dom int) {
	// 400 years have 4800 months and 146097 days, so this is close.
	month = day * 4800 / 146097
	for first(month+1) <= day {
		month++
	}
	for first(month) > day {
		month--
	}
	return month, day - first(month) + 1
}

// first returns the day on which a month begins.
func first(month int) int {
	// Ten months later it is another year if a February has passed in this one.
	return 365*(month/12) + before[month%12] + leaps((month+10)/12)
}

// length returns the number of days of a month.
func length(month int) int {
	return first(month+1) - first(month)
}

// leaps returns how many of the first n years have a 29th of February; the first year of all has one.
func leaps(n int) int {
	return (n+3)/4 - (n+99)/100 + (n+399)/400
}
