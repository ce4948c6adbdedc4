package ratio

import (
	"math/bits"

	"allonge/api"
)

// wide is a number of 128 bits, hi * 2^64 + lo; with a sign where a method says so, in two's complement.
type wide struct{ hi, lo uint64 }

// times returns the product of two numbers without signs.
func times(a, b uint64) wide {
	hi, lo := bits.Mul64(a, b)
	return wide{hi, lo}
}

// product returns the product of n and a factor, with its sign. Parts of right ratios are so small that it is far from 2^127, and so is the sum of two of them.
func product(n int, factor uint64) wide {
	w := times(magnitude(n), factor)
	if n < 0 {
		return w.opposite()
	}
	return w
}

// plus returns the sum of w and v, with its sign.
func (w wide) plus(v wide) wide {
	lo, carry := bits.Add64(w.lo, v.lo, 0)
	hi, _ := bits.Add64(w.hi, v.hi, carry)
	return wide{hi, lo}
}

// opposite returns w with the opposite sign.
func (w wide) opposite() wide {
	lo, borrow := bits.Sub64(0, w.lo, 0)
	hi, _ := bits.Sub64(0, w.hi, borrow)
	return wide{hi, lo}
}

// negative reports whether w, with its sign, is less than 0.
func (w wide) negative() bool {
	return w.hi>>63 == 1
}

// size returns w without its sign.
func (w wide) size() wide {
	if w.negative() {
		return w.opposite()
	}
	return w
}

// rest returns the remainder of w, without a sign, divided by d, which is not 0.
func (w wide) rest(d uint64) uint64 {
	return bits.Rem64(w.hi, w.lo, d)
}

// over returns the quotient of w, without a sign, divided by d, which is not 0.
func (w wide) over(d uint64) wide {
	lo, _ := bits.Div64(w.hi%d, w.lo, d)
	return wide{w.hi / d, lo}
}

// fits reports whether w, without a sign, can be a part of a right ratio.
func (w wide) fits() bool {
	return w.hi == 0 && w.lo <= api.MaxRatio
}
