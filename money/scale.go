package money

import (
	"math/bits"

	"allonge/api"
)

// isSum reports whether a number is a sum.
func isSum(n int) bool {
	return 0 <= n && n <= api.MaxSum
}

// isPermille reports whether a number is a rate of interest or discount.
func isPermille(n int) bool {
	return 0 <= n && n <= 1000
}

// isDay reports whether a number is a day.
func isDay(n int) bool {
	return 0 <= n && n <= api.MaxDay
}

// scale returns the floor of sum * num / den, if it is a sum, and whether it is the exact value. No argument is negative, and den is not 0.
func scale(sum, num, den int) (floor int, whole bool, e api.Errno) {
	// The product has up to 70 bits.
	hi, lo := bits.Mul64(uint64(sum), uint64(num))
	if hi >= uint64(den) {
		// The quotient has more than 64 bits.
		return 0, false, api.ErrRange
	}
	quotient, rest := bits.Div64(hi, lo, uint64(den))
	if quotient > api.MaxSum {
		return 0, false, api.ErrRange
	}
	return int(quotient), rest == 0, api.OK
}
