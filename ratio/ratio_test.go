package ratio_test

import (
	"math"
	"math/big"
	"math/rand"
	"slices"
	"testing"

	"allonge/api"
	"allonge/ratio"
)

const most = api.MaxRatio

// r returns a ratio with these parts, right or not.
func r(num, den int) api.Ratio {
	return api.Ratio{Num: num, Den: den}
}

// The four operations, and the same ones by the library's numbers; the second value of a quotient is not 0.
var operations = []struct {
	name  string
	call  func(a, b api.Ratio) (api.Ratio, api.Errno)
	exact func(z, x, y *big.Rat) *big.Rat
}{
	{"Add", ratio.Add, (*big.Rat).Add},
	{"Sub", ratio.Sub, (*big.Rat).Sub},
	{"Mul", ratio.Mul, (*big.Rat).Mul},
	{"Div", ratio.Div, (*big.Rat).Quo},
}

var roundings = []struct {
	name string
	call func(a api.Ratio) int
}{
	{"Floor", ratio.Floor}, {"Ceil", ratio.Ceil}, {"Nearest", ratio.Nearest},
}

var notRight = []api.Ratio{
	r(0, 0), r(1, 0), r(-1, 0), r(most, 0), r(0, -1), r(1, -1), r(-1, -1), r(1, -2), r(-1, -2), r(3, -2), r(-3, -2), r(-1, -most), r(5, math.MinInt), r(1, math.MinInt), r(0, math.MinInt),
	r(0, 2), r(0, most), r(2, 2), r(2, 4), r(-2, 4), r(-6, 3), r(6, 9), r(most, 2), r(-most, most), r(most, most), r(3*(most/4), most), r(most-1, 3),
	r(most+1, 1), r(-most-1, 1), r(most+1, 2), r(1, most+1), r(-1, most+1), r(0, most+1), r(most+1, most+3), r(most+1, most),
	r(math.MaxInt, 1), r(math.MinInt, 1), r(math.MinInt, 3), r(math.MinInt+1, 1), r(1, math.MaxInt), r(math.MaxInt, math.MaxInt), r(math.MinInt, math.MinInt), r(math.MaxInt, math.MinInt), r(math.MinInt, math.MaxInt),
}

// someRight returns right ratios: small ones, ones at the limits, and ones of all sizes.
func someRight() []api.Ratio {
	var l []api.Ratio
	parts := []int{1, 2, 3, 4, 6, 30, 1<<30 - 1, 1 << 30, 3 << 29, 1<<32 + 1, most / 3, most / 2, 3 * (most / 4), most - 3, most - 2, most - 1, most}
	for _, num := range append(parts, 0) {
		for _, den := range parts {
			if ratio.Right(r(num, den)) {
				l = append(l, r(num, den))
			}
			if ratio.Right(r(-num, den)) && num > 0 {
				l = append(l, r(-num, den))
			}
		}
	}
	return l
}

// dice makes right ratios by chance, always the same ones.
type dice struct{ *rand.Rand }

func newDice() dice {
	return dice{rand.New(rand.NewSource(3))}
}

// part returns a number from 1 to most, of any number of bits, often close to a power of 2.
func (d dice) part() int {
	n := 1 << d.Intn(61)
	switch d.Intn(4) {
	case 0:
		n += d.Intn(5) - 2
	case 1, 2:
		n += d.Intn(n)
	}
	return min(max(n, 1), most)
}

// right returns a right ratio with parts of any size.
func (d dice) right() api.Ratio {
	for {
		num := d.part()
		switch d.Intn(9) {
		case 0:
			num = 0
		case 1, 2, 3, 4:
			num = -num
		}
		if a, e := ratio.Make(num, d.part()); e == api.OK {
			return a
		}
	}
}

// close returns a right ratio that often has divisors in common with a.
func (d dice) close(a api.Ratio) api.Ratio {
	b := d.right()
	switch d.Intn(5) {
	case 0:
		b.Den = a.Den
	case 1:
		b.Num = a.Den
	case 2:
		b.Den = max(a.Num, -a.Num, 1)
	case 3:
		b.Den = max(a.Den/(1+d.Intn(6)), 1)
	}
	b, e := ratio.Make(b.Num, b.Den)
	if e != api.OK {
		return a
	}
	return b
}

// value returns the value of a ratio whose Den is not 0.
func value(a api.Ratio) *big.Rat {
	return new(big.Rat).SetFrac(big.NewInt(int64(a.Num)), big.NewInt(int64(a.Den)))
}

// given returns what it means to give a value.
func given(v *big.Rat) (api.Ratio, api.Errno) {
	limit := big.NewInt(most)
	if v.Num().CmpAbs(limit) > 0 || v.Denom().Cmp(limit) > 0 {
		return api.Ratio{}, api.ErrRange
	}
	return r(int(v.Num().Int64()), int(v.Denom().Int64())), api.OK
}

// checkMake compares Make with the library's numbers.
func checkMake(t *testing.T, num, den int) {
	t.Helper()
	want, wantE := api.Ratio{}, api.ErrArg
	if den != 0 {
		want, wantE = given(value(r(num, den)))
	}
	if got, e := ratio.Make(num, den); got != want || e != wantE {
		t.Errorf("Make(%d, %d) = %v, %d, want %v, %d", num, den, got, e, want, wantE)
	}
}

// checkOperations compares the four operations on two right ratios with the library's numbers.
func checkOperations(t *testing.T, a, b api.Ratio) {
	t.Helper()
	for i, o := range operations {
		want, wantE := api.Ratio{}, api.ErrArg
		if i < 3 || b.Num != 0 {
			want, wantE = given(o.exact(new(big.Rat), value(a), value(b)))
		}
		if got, e := o.call(a, b); got != want || e != wantE {
			t.Errorf("%s(%v, %v) = %v, %d, want %v, %d", o.name, a, b, got, e, want, wantE)
		}
	}
	if got, want := ratio.Compare(a, b), value(a).Cmp(value(b)); got != want {
		t.Errorf("Compare(%v, %v) = %d, want %d", a, b, got, want)
	}
}

// checkRounding compares Floor, Ceil and Nearest of a right ratio with the library's numbers.
func checkRounding(t *testing.T, a api.Ratio) {
	t.Helper()
	num, den := big.NewInt(int64(a.Num)), big.NewInt(int64(a.Den))
	floor, rest := new(big.Int).DivMod(num, den, new(big.Int))
	want := [3]int{int(floor.Int64()), int(floor.Int64()), int(floor.Int64())}
	if rest.Sign() > 0 {
		want[1]++
	}
	half := rest.Lsh(rest, 1).Cmp(den)
	if half > 0 || half == 0 && floor.Bit(0) == 1 {
		want[2]++
	}
	for i, f := range roundings {
		if got := f.call(a); got != want[i] {
			t.Errorf("%s(%v) = %d, want %d", f.name, a, got, want[i])
		}
	}
}

// P3.1: Right, for small parts and at the limits.
func TestRight(t *testing.T) {
	for num := -40; num <= 40; num++ {
		for den := -40; den <= 40; den++ {
			// The definition, with all common divisors that are possible.
			want := den >= 1
			for d := 2; d <= 40; d++ {
				want = want && (num%d != 0 || den%d != 0)
			}
			if got := ratio.Right(r(num, den)); got != want {
				t.Errorf("Right(%d/%d) = %v", num, den, got)
			}
		}
	}
	for _, a := range notRight {
		if ratio.Right(a) {
			t.Errorf("Right(%v) = true", a)
		}
	}
	for _, a := range []api.Ratio{
		r(0, 1), r(most, 1), r(-most, 1), r(1, most), r(-1, most), r(most-1, most), r(most, most-1), r(-most, most-1), r(1-most, most), r(most-1, 1), r(most, 3), r(3*(most/4), 5),
	} {
		if !ratio.Right(a) {
			t.Errorf("Right(%v) = false", a)
		}
	}
}

// P3.1: Make puts a fraction into lowest terms, with the sign in Num.
func TestMake(t *testing.T) {
	for _, c := range []struct {
		num, den int
		want     api.Ratio
		e        api.Errno
	}{
		{6, -4, r(-3, 2), api.OK}, {-6, 4, r(-3, 2), api.OK}, {6, 4, r(3, 2), api.OK}, {-6, -4, r(3, 2), api.OK},
		{0, -7, r(0, 1), api.OK}, {0, 7, r(0, 1), api.OK}, {0, 1, r(0, 1), api.OK}, {0, most, r(0, 1), api.OK}, {0, math.MinInt, r(0, 1), api.OK}, {0, math.MaxInt, r(0, 1), api.OK},
		{1, 1, r(1, 1), api.OK}, {7, 7, r(1, 1), api.OK}, {-7, 7, r(-1, 1), api.OK}, {7, -1, r(-7, 1), api.OK}, {12, 18, r(2, 3), api.OK},
		{1, 0, api.Ratio{}, api.ErrArg}, {0, 0, api.Ratio{}, api.ErrArg}, {-1, 0, api.Ratio{}, api.ErrArg}, {math.MaxInt, 0, api.Ratio{}, api.ErrArg}, {math.MinInt, 0, api.Ratio{}, api.ErrArg},
	} {
		if got, e := ratio.Make(c.num, c.den); got != c.want || e != c.e {
			t.Errorf("Make(%d, %d) = %v, %d, want %v, %d", c.num, c.den, got, e, c.want, c.e)
		}
	}
	for num := -60; num <= 60; num++ {
		for den := -60; den <= 60; den++ {
			checkMake(t, num, den)
		}
	}
}

// P3.1: what counts for the limits are the parts in lowest terms.
func TestMakeLimits(t *testing.T) {
	for _, c := range []struct {
		num, den int
		want     api.Ratio
		e        api.Errno
	}{
		{most, 1, r(most, 1), api.OK}, {-most, 1, r(-most, 1), api.OK}, {most, -1, r(-most, 1), api.OK}, {1, most, r(1, most), api.OK}, {1, -most, r(-1, most), api.OK},
		{most + 1, 1, api.Ratio{}, api.ErrRange}, {-most - 1, 1, api.Ratio{}, api.ErrRange}, {1, most + 1, api.Ratio{}, api.ErrRange}, {1, -most - 1, api.Ratio{}, api.ErrRange},
		{2 * most, 2, r(most, 1), api.OK}, {2, -2 * most, r(-1, most), api.OK}, {4 * (most - 1), 3 * 4, r((most-1)/3, 1), api.OK}, {2*most + 2, 2, api.Ratio{}, api.ErrRange}, {2 * most, 3, api.Ratio{}, api.ErrRange},
		{math.MinInt, 8, r(-most, 1), api.OK}, {math.MinInt, -8, r(most, 1), api.OK}, {math.MinInt, 4, api.Ratio{}, api.ErrRange}, {math.MinInt, 1, api.Ratio{}, api.ErrRange}, {math.MinInt, -1, api.Ratio{}, api.ErrRange}, {8, math.MinInt, r(-1, most), api.OK}, {-24, math.MinInt, r(3, most), api.OK}, {1, math.MinInt, api.Ratio{}, api.ErrRange},
		{math.MinInt, math.MinInt, r(1, 1), api.OK}, {math.MaxInt, math.MaxInt, r(1, 1), api.OK}, {math.MaxInt, -math.MaxInt, r(-1, 1), api.OK}, {math.MaxInt, math.MinInt, api.Ratio{}, api.ErrRange}, {math.MinInt, math.MaxInt, api.Ratio{}, api.ErrRange}, {math.MaxInt, 7 * 7, r(math.MaxInt/49, 1), api.OK}, {math.MaxInt, 7, api.Ratio{}, api.ErrRange},
	} {
		if got, e := ratio.Make(c.num, c.den); got != c.want || e != c.e {
			t.Errorf("Make(%d, %d) = %v, %d, want %v, %d", c.num, c.den, got, e, c.want, c.e)
		}
	}
	ends := []int{math.MinInt, math.MinInt + 1, math.MinInt + 8, -2 * most, -most - 1, -most, 1 - most, -1, 0, 1, 2, 3, 8, 49, most - 1, most, most + 1, 2 * most, 3 * most, math.MaxInt - 1, math.MaxInt}
	for _, num := range ends {
		for _, den := range ends {
			checkMake(t, num, den)
		}
	}
	d := newDice()
	for range 50000 {
		num, den := int(d.Uint64()>>d.Intn(64)), int(d.Uint64()>>d.Intn(64))
		checkMake(t, num, den)
		checkMake(t, d.part()*(1+d.Intn(7)), den)
	}
}

// P3.2: sums, differences, products and quotients of small and of great values.
func TestFour(t *testing.T) {
	const add, sub, mul, div = 0, 1, 2, 3
	for _, c := range []struct {
		op         int
		a, b, want api.Ratio
		e          api.Errno
	}{
		{add, r(1, 6), r(1, 10), r(4, 15), api.OK}, {add, r(1, 2), r(1, 2), r(1, 1), api.OK}, {add, r(1, 2), r(-1, 2), r(0, 1), api.OK}, {add, r(0, 1), r(-3, 7), r(-3, 7), api.OK}, {add, r(-1, 6), r(-1, 3), r(-1, 2), api.OK},
		{sub, r(1, 6), r(1, 6), r(0, 1), api.OK}, {sub, r(1, 6), r(1, 2), r(-1, 3), api.OK}, {sub, r(-1, 6), r(-1, 2), r(1, 3), api.OK}, {sub, r(0, 1), r(3, 7), r(-3, 7), api.OK}, {sub, r(0, 1), r(0, 1), r(0, 1), api.OK},
		{mul, r(2, 3), r(-3, 4), r(-1, 2), api.OK}, {mul, r(-2, 3), r(-3, 2), r(1, 1), api.OK}, {mul, r(0, 1), r(-5, 7), r(0, 1), api.OK}, {mul, r(-5, 7), r(0, 1), r(0, 1), api.OK},
		{div, r(2, 3), r(-4, 3), r(-1, 2), api.OK}, {div, r(-2, 3), r(-4, 3), r(1, 2), api.OK}, {div, r(0, 1), r(-5, 7), r(0, 1), api.OK}, {div, r(-5, 7), r(-5, 7), r(1, 1), api.OK}, {div, r(3, 1), r(7, 1), r(3, 7), api.OK},
		{div, r(1, 2), r(0, 1), api.Ratio{}, api.ErrArg}, {div, r(0, 1), r(0, 1), api.Ratio{}, api.ErrArg}, {div, r(-most, 1), r(0, 1), api.Ratio{}, api.ErrArg},

		{mul, r(most, 1), r(2, 1), api.Ratio{}, api.ErrRange}, {mul, r(most, 3), r(3, most/2), r(2, 1), api.OK}, {mul, r(most, 1), r(1, most), r(1, 1), api.OK}, {mul, r(most, most-1), r(1-most, most), r(-1, 1), api.OK}, {mul, r(1, most), r(1, 2), api.Ratio{}, api.ErrRange}, {mul, r(1<<30, 1), r(-1<<30, 1), r(-most, 1), api.OK}, {mul, r(1, 1<<30), r(-1, 1<<30), r(-1, most), api.OK}, {mul, r(1<<30, 1), r(1<<30+1, 1), api.Ratio{}, api.ErrRange},
		// The products of these parts are 0 modulo 2^64 or close to it.
		{mul, r(1<<32, 1), r(1<<32, 1), api.Ratio{}, api.ErrRange}, {mul, r(1<<32+1, 1), r(-1<<32, 1), api.Ratio{}, api.ErrRange}, {mul, r(1, 1<<32), r(1, 1<<32), api.Ratio{}, api.ErrRange}, {mul, r(most, 1), r(16, 1), api.Ratio{}, api.ErrRange}, {mul, r(most, 1), r(8, 1), api.Ratio{}, api.ErrRange}, {mul, r(1<<32, 3), r(1<<32, 5), api.Ratio{}, api.ErrRange}, {div, r(1<<32, 1), r(1, 1<<32), api.Ratio{}, api.ErrRange}, {add, r(1, 1<<32), r(1, 1<<32-1), api.Ratio{}, api.ErrRange},
		{div, r(most, 1), r(most, 1), r(1, 1), api.OK}, {div, r(1, most), r(-1, most), r(-1, 1), api.OK}, {div, r(most, 1), r(1, 2), api.Ratio{}, api.ErrRange}, {div, r(1, most), r(2, 1), api.Ratio{}, api.ErrRange}, {div, r(-1, most), r(-most, 1), api.Ratio{}, api.ErrRange}, {div, r(1, 1), r(-most, 1), r(-1, most), api.OK}, {div, r(1, 1), r(-1, most), r(-most, 1), api.OK},
		{add, r(most, 1), r(1, 1), api.Ratio{}, api.ErrRange}, {add, r(most-1, 1), r(1, 1), r(most, 1), api.OK}, {add, r(-most, 1), r(-1, most), api.Ratio{}, api.ErrRange}, {add, r(1, most), r(-1, most), r(0, 1), api.OK}, {add, r(most-1, most), r(1, most), r(1, 1), api.OK}, {add, r(most, most-1), r(most-2, most-1), r(2, 1), api.OK}, {add, r(1, most), r(1, most-1), api.Ratio{}, api.ErrRange}, {add, r(1, most), r(3, most), r(1, most/4), api.OK}, {add, r(-most, 1), r(1, 1), r(1-most, 1), api.OK},
		{sub, r(-most, 1), r(1, 1), api.Ratio{}, api.ErrRange}, {sub, r(1-most, 1), r(1, 1), r(-most, 1), api.OK}, {sub, r(most, 1), r(-most, 1), api.Ratio{}, api.ErrRange}, {sub, r(most, 3), r(most, 3), r(0, 1), api.OK}, {sub, r(1, 3), r(1, most), api.Ratio{}, api.ErrRange},
	} {
		o := operations[c.op]
		if got, e := o.call(c.a, c.b); got != c.want || e != c.e {
			t.Errorf("%s(%v, %v) = %v, %d, want %v, %d", o.name, c.a, c.b, got, e, c.want, c.e)
		}
	}
}

// P3.2 and P3.3: the exact results, by the library's numbers, for all pairs of small and of extreme ratios and for many others.
func TestExact(t *testing.T) {
	l := someRight()
	for _, a := range l {
		for _, b := range l {
			checkOperations(t, a, b)
		}
	}
	d := newDice()
	for range 60000 {
		a := d.right()
		checkOperations(t, a, d.right())
		checkOperations(t, a, d.close(a))
	}
}

// P3.2: the denominators have great divisors in common, and the numerator of a sum has more than 64 bits before it is reduced.
func TestExactSums(t *testing.T) {
	d := newDice()
	checked := 0
	for range 60000 {
		// A sum that can be given, and one of its parts, tell the other part.
		sum, a := d.right(), d.right()
		v := new(big.Rat).Sub(value(sum), value(a))
		if b, e := given(v); e == api.OK {
			checkOperations(t, a, b)
			checkOperations(t, sum, b)
			checked++
		}
	}
	const n = 1<<30 - 1
	for k := range 300 {
		for _, den := range []int{n * (n - 2), n << 30, most - 1 - 2*k, most - 4*k} {
			a, aE := ratio.Make(most-k, den)
			b, bE := ratio.Make(k*k-most, den)
			c, cE := ratio.Make(most-3*k, den/3)
			if aE != api.OK || bE != api.OK || cE != api.OK {
				t.Fatal("these ratios can be made", k, den)
			}
			checkOperations(t, a, b)
			checkOperations(t, a, c)
			checkOperations(t, c, b)
		}
	}
	if checked < 1000 {
		t.Errorf("only %d sums were checked", checked)
	}
}

// P3.2 to P3.4: a ratio that is not right, on either side.
func TestNotRight(t *testing.T) {
	partners := []api.Ratio{r(0, 1), r(1, 1), r(-3, 2), r(5, 1), r(most, 1), r(-1, most)}
	for _, a := range notRight {
		for _, b := range slices.Concat(partners, notRight) {
			for _, o := range operations {
				if got, e := o.call(a, b); got != (api.Ratio{}) || e != api.ErrArg {
					t.Errorf("%s(%v, %v) = %v, %d", o.name, a, b, got, e)
				}
				if got, e := o.call(b, a); got != (api.Ratio{}) || e != api.ErrArg {
					t.Errorf("%s(%v, %v) = %v, %d", o.name, b, a, got, e)
				}
			}
			if got, back := ratio.Compare(a, b), ratio.Compare(b, a); got != 0 || back != 0 {
				t.Errorf("Compare of %v and %v = %d, and %d", a, b, got, back)
			}
		}
		for _, f := range roundings {
			if got := f.call(a); got != 0 {
				t.Errorf("%s(%v) = %d", f.name, a, got)
			}
		}
	}
}

// P3.3: Compare, also where the products of the parts have more than 64 bits.
func TestCompare(t *testing.T) {
	// Each one is less than the next one.
	l := []api.Ratio{
		r(-most, 1), r(1-most, 1), r(-most, 3), r(-2, 1), r(-most, most-1), r(-1, 1), r(1-most, most), r(2-most, most-1), r(-1, 2), r(-1, most-1), r(-1, most),
		r(0, 1), r(1, most), r(1, most-1), r(1, 3), r(most/2-1, most-1), r(1, 2), r(most/2, most-1), r(2, 3), r(most-2, most-1), r(most-1, most), r(1, 1), r(most, most-1), r(most-1, most-2), r(2, 1), r(most, 3), r(most-1, 1), r(most, 1),
	}
	for i, a := range l {
		for j, b := range l {
			want := 0
			if i < j {
				want = -1
			} else if i > j {
				want = 1
			}
			if got := ratio.Compare(a, b); got != want {
				t.Errorf("Compare(%v, %v) = %d, want %d", a, b, got, want)
			}
		}
	}
}

// P3.4: the integers around a value, and of two nearest ones the even one.
func TestRound(t *testing.T) {
	for _, c := range []struct {
		a                    api.Ratio
		floor, ceil, nearest int
	}{
		{r(-3, 2), -2, -1, -2}, {r(5, 2), 2, 3, 2}, {r(7, 3), 2, 3, 2}, {r(8, 3), 2, 3, 3}, {r(-7, 3), -3, -2, -2}, {r(-8, 3), -3, -2, -3},
		{r(1, 2), 0, 1, 0}, {r(-1, 2), -1, 0, 0}, {r(3, 2), 1, 2, 2}, {r(-5, 2), -3, -2, -2}, {r(7, 2), 3, 4, 4}, {r(-7, 2), -4, -3, -4},
		{r(0, 1), 0, 0, 0}, {r(1, 1), 1, 1, 1}, {r(-1, 1), -1, -1, -1}, {r(3, 1), 3, 3, 3}, {r(-4, 1), -4, -4, -4}, {r(most, 1), most, most, most}, {r(-most, 1), -most, -most, -most},
		{r(1, most), 0, 1, 0}, {r(-1, most), -1, 0, 0}, {r(most-1, most), 0, 1, 1}, {r(1-most, most), -1, 0, -1}, {r(most/2-1, most), 0, 1, 0}, {r(most/2+1, most), 0, 1, 1}, {r(1-most/2, most), -1, 0, 0}, {r(-1-most/2, most), -1, 0, -1},
		{r(most/2, most-1), 0, 1, 1}, {r(most/2-1, most-1), 0, 1, 0}, {r(most-1, 2), most/2 - 1, most / 2, most / 2}, {r(1-most, 2), -most / 2, 1 - most/2, -most / 2}, {r(most-3, 2), most/2 - 2, most/2 - 1, most/2 - 2}, {r(3-most, 2), 1 - most/2, 2 - most/2, 2 - most/2},
		{r(most, most-1), 1, 2, 1}, {r(-most, most-1), -2, -1, -1}, {r(most, 3), most / 3, most/3 + 1, most / 3},
	} {
		if floor, ceil, nearest := ratio.Floor(c.a), ratio.Ceil(c.a), ratio.Nearest(c.a); floor != c.floor || ceil != c.ceil || nearest != c.nearest {
			t.Errorf("Floor, Ceil, Nearest of %v = %d, %d, %d, want %d, %d, %d", c.a, floor, ceil, nearest, c.floor, c.ceil, c.nearest)
		}
	}
	for num := -200; num <= 200; num++ {
		for den := 1; den <= 40; den++ {
			if a := r(num, den); ratio.Right(a) {
				checkRounding(t, a)
			}
		}
	}
	for _, a := range someRight() {
		checkRounding(t, a)
	}
	d := newDice()
	for range 50000 {
		checkRounding(t, d.right())
	}
}

// P3.5: no call changes what another call returns.
func TestPure(t *testing.T) {
	l := slices.Concat(notRight, someRight()[:60])
	type results struct {
		four    [4]api.Ratio
		errs    [4]api.Errno
		compare int
		rounded [3]int
		right   bool
	}
	call := func(a, b api.Ratio) results {
		x := results{compare: ratio.Compare(a, b), right: ratio.Right(a)}
		for i, o := range operations {
			x.four[i], x.errs[i] = o.call(a, b)
		}
		for i, f := range roundings {
			x.rounded[i] = f.call(a)
		}
		return x
	}
	var first []results
	for _, a := range l {
		for _, b := range l {
			first = append(first, call(a, b))
		}
	}
	for i := len(first) - 1; i >= 0; i-- {
		if a, b := l[i/len(l)], l[i%len(l)]; call(a, b) != first[i] {
			t.Errorf("the results for %v and %v are not always the same", a, b)
		}
	}
}

// chain does operations one after the other, as long as the results can be given.
type chain struct{ e api.Errno }

func (c *chain) do(f func(a, b api.Ratio) (api.Ratio, api.Errno), a, b api.Ratio) api.Ratio {
	if c.e != api.OK {
		return api.Ratio{}
	}
	a, c.e = f(a, b)
	return a
}

// P3.6: sums and products do not depend on the order, and a product with a sum is the sum of the products, where all of it can be given.
func TestLaws(t *testing.T) {
	var checked [3]int
	same := func(law int, a, b, c api.Ratio, one, two func(*chain) api.Ratio) {
		var left, right chain
		x, y := one(&left), two(&right)
		if left.e != api.OK || right.e != api.OK {
			return
		}
		checked[law]++
		if x != y {
			t.Errorf("law %d: %v, %v, %v: %v is not %v", law, a, b, c, x, y)
		}
	}
	check := func(a, b, c api.Ratio) {
		for i, f := range []func(a, b api.Ratio) (api.Ratio, api.Errno){ratio.Add, ratio.Mul} {
			x, e := f(a, b)
			if y, back := f(b, a); x != y || e != back {
				t.Errorf("%v, %v: %v, %d is not %v, %d", a, b, x, e, y, back)
			}
			same(i, a, b, c,
				func(l *chain) api.Ratio { return l.do(f, l.do(f, a, b), c) },
				func(l *chain) api.Ratio { return l.do(f, a, l.do(f, b, c)) })
		}
		same(2, a, b, c,
			func(l *chain) api.Ratio { return l.do(ratio.Mul, a, l.do(ratio.Add, b, c)) },
			func(l *chain) api.Ratio { return l.do(ratio.Add, l.do(ratio.Mul, a, b), l.do(ratio.Mul, a, c)) })
	}
	small := []api.Ratio{r(0, 1), r(1, 1), r(-1, 1), r(1, 2), r(-2, 3), r(5, 4), r(-7, 6), r(9, 10), r(most, 1), r(-1, most), r(most, 3), r(3, most), r(1-most, 2), r(1<<30, 3), r(-5, 1<<30)}
	for _, a := range small {
		for _, b := range small {
			for _, c := range small {
				check(a, b, c)
			}
		}
	}
	d := newDice()
	for range 40000 {
		a := d.right()
		b := d.close(a)
		check(a, b, d.close(b))
	}
	if slices.Min(checked[:]) < 2000 {
		t.Errorf("only %d cases could be given", checked)
	}
}

// P3.6: what was added can be subtracted again, and what was multiplied divided.
func TestBack(t *testing.T) {
	check := func(a, b api.Ratio) {
		if sum, e := ratio.Add(a, b); e == api.OK {
			if got, e := ratio.Sub(sum, b); got != a || e != api.OK {
				t.Errorf("%v + %v - %v = %v, %d", a, b, b, got, e)
			}
		}
		if product, e := ratio.Mul(a, b); e == api.OK && b.Num != 0 {
			if got, e := ratio.Div(product, b); got != a || e != api.OK {
				t.Errorf("%v * %v / %v = %v, %d", a, b, b, got, e)
			}
		}
	}
	l := someRight()
	for _, a := range l {
		for _, b := range l {
			check(a, b)
		}
	}
	d := newDice()
	for range 60000 {
		a := d.right()
		check(a, d.close(a))
	}
}

// P3.7: Compare is an order, and says the sign of the difference, if it can be given.
func TestOrder(t *testing.T) {
	l := someRight()
	d := newDice()
	for range 300 {
		l = append(l, d.right())
	}
	slices.SortFunc(l, ratio.Compare)
	for i, a := range l {
		for j, b := range l {
			c := ratio.Compare(a, b)
			if i < j && c > 0 || i > j && c < 0 || c != -ratio.Compare(b, a) {
				t.Errorf("Compare(%v, %v) = %d is not in order", a, b, c)
			}
			// Equal values have equal ratios.
			if (c == 0) != (a == b) {
				t.Errorf("Compare(%v, %v) = %d", a, b, c)
			}
			if difference, e := ratio.Sub(a, b); e == api.OK && ratio.Compare(difference, r(0, 1)) != c {
				t.Errorf("Compare(%v, %v) = %d, and the difference is %v", a, b, c, difference)
			}
		}
	}
}

// P3.7: one value has one ratio, in whatever way it is calculated.
func TestEqualValues(t *testing.T) {
	d := newDice()
	for range 40000 {
		a := d.right()
		if size := max(a.Num, -a.Num, a.Den); size <= math.MaxInt/1000 {
			k := 1 + d.Intn(min(math.MaxInt/size, 1<<40))
			for _, k := range []int{k, -k} {
				if got, e := ratio.Make(k*a.Num, k*a.Den); got != a || e != api.OK {
					t.Errorf("Make(%d, %d) = %v, %d, want %v", k*a.Num, k*a.Den, got, e, a)
				}
			}
		}
		if got, e := ratio.Add(a, r(0, 1)); got != a || e != api.OK {
			t.Errorf("%v + 0 = %v, %d", a, got, e)
		}
		if got, e := ratio.Mul(r(1, 1), a); got != a || e != api.OK {
			t.Errorf("1 * %v = %v, %d", a, got, e)
		}
		if got, e := ratio.Sub(a, a); got != r(0, 1) || e != api.OK {
			t.Errorf("%v - %v = %v, %d", a, a, got, e)
		}
	}
}

// P3.8: the value lies between Floor and Ceil, which are as close as they can be, and Nearest is the nearer one.
func TestBetween(t *testing.T) {
	l := someRight()
	d := newDice()
	for range 20000 {
		l = append(l, d.right())
	}
	half := big.NewRat(1, 2)
	for _, a := range l {
		floor, ceil, nearest := ratio.Floor(a), ratio.Ceil(a), ratio.Nearest(a)
		v := value(a)
		if value(r(floor, 1)).Cmp(v) > 0 || v.Cmp(value(r(ceil, 1))) > 0 {
			t.Errorf("%v is not from %d to %d", a, floor, ceil)
		}
		if a.Den == 1 && ceil != floor || a.Den > 1 && ceil != floor+1 {
			t.Errorf("%v: Floor is %d, and Ceil %d", a, floor, ceil)
		}
		far := v.Sub(v, value(r(nearest, 1)))
		if nearest != floor && nearest != ceil || far.Abs(far).Cmp(half) > 0 || far.Cmp(half) == 0 && nearest%2 != 0 {
			t.Errorf("Nearest(%v) = %d", a, nearest)
		}
	}
}
