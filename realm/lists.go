package realm

import (
	"slices"

	"allonge/api"
)

// Bounds that have no constant in package api.
const (
	maxGrade  = 9
	maxFeasts = 60
	maxShut   = 200
)

// currencies returns the first error of the list Currencies.
func currencies(r api.Realm) api.Errno {
	name := func(s string) string { return s }
	right := func(string) bool { return true }
	return first(r.Currencies, api.MaxCurrencies, named(name, right))
}

// cities returns the first error of the list Cities.
func cities(r api.Realm) api.Errno {
	right := func(c api.City) bool {
		return isIndex(c.Order, r.Orders) && isIndex(c.Currency, r.Currencies) &&
			rises(c.Rest, isWeekday) &&
			len(c.Feasts) <= maxFeasts && rises(c.Feasts, isFeast) &&
			len(c.Shut) <= maxShut && rises(c.Shut, isDay)
	}
	return first(r.Cities, api.MaxCities, named(cityName, right))
}

// groups returns the first error of the list Groups.
func groups(r api.Realm) api.Errno {
	right := func(g api.Group) bool { return within(g.Grade, 0, maxGrade) }
	return first(r.Groups, api.MaxGroups, nameless(right))
}

// firms returns the first error of the list Firms.
func firms(r api.Realm) api.Errno {
	right := func(f api.Firm) bool {
		return isIndex(f.City, r.Cities) && isIndex(f.Group, r.Groups)
	}
	return first(r.Firms, api.MaxFirms, named(firmName, right))
}

// orders returns the first error of the list Orders. It leaves out the terms of the rules: which terms are right is not known here.
func orders(r api.Realm) api.Errno {
	name := func(o api.Order) string { return o.Name }
	right := func(o api.Order) bool {
		var chosen, ruled []int
		for _, c := range o.Choices {
			if !within(c.By, 0, api.CfKinds-1) {
				return false
			}
			chosen = append(chosen, c.Ask)
		}
		for _, rule := range o.Rules {
			ruled = append(ruled, rule.Ask)
		}
		return rises(chosen, isQuestion) && rises(ruled, isQuestion)
	}
	return first(r.Orders, api.MaxOrders, named(name, right))
}

// usances returns the first error of the list Usances.
func usances(r api.Realm) api.Errno {
	right := func(u api.Usance) bool {
		return isIndex(u.From, r.Cities) && isIndex(u.To, r.Cities) && within(u.Days, 1, api.MaxDays)
	}
	check := func(before []api.Usance, u api.Usance) api.Errno {
		if !right(u) {
			return api.ErrArg
		}
		same := func(b api.Usance) bool { return b.From == u.From && b.To == u.To }
		if slices.ContainsFunc(before, same) {
			return api.ErrTwice
		}
		return api.OK
	}
	return first(r.Usances, api.MaxUsances, check)
}

// rates returns the first error of the list Rates.
func rates(r api.Realm) api.Errno {
	right := func(x api.Rate) bool {
		return isIndex(x.From, r.Currencies) && isIndex(x.To, r.Currencies) && x.From != x.To &&
			within(x.Num, 1, api.MaxRate) && within(x.Den, 1, api.MaxRate) && isDay(x.Since)
	}
	return first(r.Rates, api.MaxRates, nameless(right))
}

// halts returns the first error of the list Halts.
func halts(r api.Realm) api.Errno {
	right := func(h api.Halt) bool {
		return isIndex(h.Order, r.Orders) && isDay(h.From) && within(h.To, h.From, api.MaxDay)
	}
	return first(r.Halts, api.MaxHalts, nameless(right))
}

// first returns the first error of a list: that it is longer than its limit, or what a check says of an element and those before it.
func first[T any](l []T, limit int, check func(before []T, e T) api.Errno) api.Errno {
	if len(l) > limit {
		return api.ErrFull
	}
	for i, e := range l {
		if err := check(l[:i], e); err != api.OK {
			return err
		}
	}
	return api.OK
}

// named returns the check of elements that have names of their own.
func named[T any](name func(T) string, right func(T) bool) func(before []T, e T) api.Errno {
	return func(before []T, e T) api.Errno {
		switch {
		case !isName(name(e)):
			return api.ErrForm
		case find(before, name, name(e)) != api.None:
			return api.ErrTwice
		case !right(e):
			return api.ErrArg
		}
		return api.OK
	}
}

// nameless returns the check of elements that have no names, and of which some may be equal.
func nameless[T any](right func(T) bool) func(before []T, e T) api.Errno {
	return func(_ []T, e T) api.Errno {
		if !right(e) {
			return api.ErrArg
		}
		return api.OK
	}
}

func cityName(c api.City) string { return c.Name }

func firmName(f api.Firm) string { return f.Name }

// isName reports whether a string is a name.
func isName(s string) bool {
	if len(s) == 0 || len(s) > api.MaxName || !isLetter(s[0]) {
		return false
	}
	for _, b := range []byte(s) {
		if !isLetter(b) && b != '_' && (b < '0' || b > '9') {
			return false
		}
	}
	return true
}

func isLetter(b byte) bool {
	return 'a' <= b && b <= 'z' || 'A' <= b && b <= 'Z'
}

// rises reports whether each number of a list fits, and is greater than the one before it.
func rises(l []int, fits func(int) bool) bool {
	for i, n := range l {
		if !fits(n) || i > 0 && l[i-1] >= n {
			return false
		}
	}
	return true
}

func isWeekday(n int) bool { return within(n, 0, 6) }

// isFeast reports whether a number is month * 100 + day. Which months have fewer than 31 days does not matter.
func isFeast(n int) bool {
	return within(n/100, 1, 12) && within(n%100, 1, 31)
}

func isDay(n int) bool { return within(n, 0, api.MaxDay) }

func isQuestion(n int) bool { return within(n, 0, api.QuKinds-1) }

func isIndex[T any](n int, l []T) bool { return within(n, 0, len(l)-1) }

func within(n, low, high int) bool { return low <= n && n <= high }
