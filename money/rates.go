package money

import "allonge/api"

// areRates reports whether there are not too many rates, and their parts are in range.
func areRates(rates []api.Rate) bool {
	if len(rates) > api.MaxRates {
		return false
	}
	for _, r := range rates {
		if !isPart(r.Num) || !isPart(r.Den) {
			return false
		}
	}
	return true
}

// isPart reports whether a number can be a part of a rate.
func isPart(n int) bool {
	return 1 <= n && n <= api.MaxRate
}

// rateOf returns the parts of the rate of a pair on a day, and whether it has one.
func rateOf(rates []api.Rate, from, to, day int) (num, den int, ok bool) {
	since := 0
	for _, r := range rates {
		if r.From != from || r.To != to || r.Since > day {
			continue
		}
		// Of several with the same Since, the first one stays.
		if !ok || r.Since > since {
			num, den, since, ok = r.Num, r.Den, r.Since, true
		}
	}
	return num, den, ok
}
