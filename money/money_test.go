package money_test

import (
	"math"
	"math/big"
	"math/rand"
	"slices"
	"testing"

	"allonge/api"
	"allonge/money"
)

const most = api.MaxSum

// Numbers that are no sums, no permilles, no days and no periods.
var (
	noSums      = []int{-1, -2, -1000, -most, most + 1, most + 2, 2 * most, 1 << 62, math.MinInt, math.MinInt + 1, math.MaxInt - 1, math.MaxInt}
	noPermilles = []int{-1, -2, -1000, 1001, 1002, 2000, 1 << 32, math.MinInt, math.MinInt + 1, math.MaxInt - 1, math.MaxInt}
	noDays      = []int{-1, -2, -400, api.MaxDay + 1, api.MaxDay + 2, 1 << 32, math.MinInt, math.MinInt + 1, math.MaxInt - 1, math.MaxInt}
	noPeriods   = []int{-1, -2, -400, api.MaxDays + 1, api.MaxDays + 2, api.MaxDay, 1 << 32, math.MinInt, math.MinInt + 1, math.MaxInt - 1, math.MaxInt}
)

// exactly returns the floor and the ceiling of a product that is divided by den, by the library's numbers.
func exactly(den int, factors ...int) (floor, ceil *big.Int) {
	n := big.NewInt(1)
	for _, f := range factors {
		n.Mul(n, big.NewInt(int64(f)))
	}
	floor, rest := new(big.Int).DivMod(n, big.NewInt(int64(den)), new(big.Int))
	ceil = new(big.Int).Set(floor)
	if rest.Sign() > 0 {
		ceil.Add(ceil, big.NewInt(1))
	}
	return floor, ceil
}

// upTo returns what a function returns whose result may be at most limit.
func upTo(limit int, n *big.Int) (int, api.Errno) {
	if n.Cmp(big.NewInt(int64(limit))) > 0 {
		return 0, api.ErrRange
	}
	return int(n.Int64()), api.OK
}

// interest returns what Interest returns for arguments that are in range.
func interest(sum, permille, days, basis int) (int, api.Errno) {
	floor, _ := exactly(1000*basis, sum, permille, days)
	return upTo(most, floor)
}

// discount returns what Discount returns for arguments that are in range.
func discount(sum, permille, days int) (int, api.Errno) {
	_, ceil := exactly(360000, sum, permille, days)
	return upTo(sum, ceil)
}

func checkInterest(t *testing.T, sum, permille, from, to, basis, want int, wantE api.Errno) {
	t.Helper()
	if got, e := money.Interest(sum, permille, from, to, basis); got != want || e != wantE {
		t.Errorf("Interest(%d, %d, %d, %d, %d) = %d, %d, want %d, %d", sum, permille, from, to, basis, got, e, want, wantE)
	}
}

func checkDiscount(t *testing.T, sum, permille, days, want int, wantE api.Errno) {
	t.Helper()
	if got, e := money.Discount(sum, permille, days); got != want || e != wantE {
		t.Errorf("Discount(%d, %d, %d) = %d, %d, want %d, %d", sum, permille, days, got, e, want, wantE)
	}
}

// dice makes arguments by chance, always the same ones.
type dice struct{ *rand.Rand }

func newDice() dice {
	return dice{rand.New(rand.NewSource(5))}
}

// size returns a number from 0 to limit, of any number of bits, often at the limit.
func (d dice) size(limit int) int {
	switch d.Intn(8) {
	case 0:
		return limit - d.Intn(min(limit+1, 4))
	case 1:
		return d.Intn(min(limit+1, 4))
	}
	return min(d.Intn(2<<d.Intn(41)), limit)
}

// part returns a part of a rate.
func (d dice) part() int {
	return max(1, d.size(api.MaxRate))
}

// basis returns a basis of interest.
func (d dice) basis() int {
	return 360 + 5*d.Intn(2)
}

// P5.1: ordinary interest, and the two bases.
func TestInterest(t *testing.T) {
	for _, c := range []struct{ sum, permille, from, to, basis, want int }{
		{1000, 60, 0, 90, 360, 15}, {1000, 60, 0, 90, 365, 14}, {1000, 60, 10, 100, 360, 15}, {1000, 60, 99910, 100000, 360, 15},
		{1000, 60, 0, 360, 360, 60}, {1000, 60, 0, 365, 365, 60}, {1000, 60, 0, 365, 360, 60}, {1000, 60, 0, 366, 360, 61}, {1000, 60, 0, 364, 365, 59}, {1000, 50, 0, 730, 365, 100},
		// Rounded down, however little is missing.
		{999, 1, 0, 360, 360, 0}, {1000, 1, 0, 360, 360, 1}, {1000, 1, 0, 359, 360, 0}, {1999, 1, 0, 360, 360, 1}, {359, 1000, 0, 1, 360, 0}, {360, 1000, 0, 1, 360, 1}, {360, 1000, 0, 1, 365, 0}, {365, 1000, 0, 1, 365, 1}, {1, 1, 0, 1, 360, 0},
		{0, 60, 0, 90, 360, 0}, {1000, 0, 0, 90, 360, 0}, {1000, 60, 90, 90, 360, 0}, {most, 1000, 0, 0, 365, 0}, {most, 1000, api.MaxDay, api.MaxDay, 365, 0}, {0, 0, 0, 0, 360, 0}, {0, 1000, 0, api.MaxDay, 360, 0}, {most, 0, 0, api.MaxDay, 360, 0},
		{1, 1000, 0, api.MaxDay, 360, 277}, {1, 1000, 0, api.MaxDay, 365, 273},
	} {
		checkInterest(t, c.sum, c.permille, c.from, c.to, c.basis, c.want, api.OK)
	}
}

// P5.1: the greatest results; products have more than 64 bits.
func TestInterestLimit(t *testing.T) {
	for _, c := range []struct {
		sum, permille, days, basis, want int
		e                                api.Errno
	}{
		{most, 1000, 360, 360, most, api.OK}, {most, 1000, 361, 360, 0, api.ErrRange}, {most, 1000, 359, 360, 1096457428809, api.OK}, {most, 1000, 365, 365, most, api.OK}, {most, 1000, 366, 365, 0, api.ErrRange}, {most, 1000, 365, 360, 0, api.ErrRange}, {most, 1000, api.MaxDay, 360, 0, api.ErrRange}, {most, 1000, api.MaxDay, 365, 0, api.ErrRange},
		{most, 4, 90000, 360, most, api.OK}, {most, 4, 90001, 360, 0, api.ErrRange}, {most, 5, 73000, 365, most, api.OK}, {most, 5, 73001, 365, 0, api.ErrRange}, {most, 1, api.MaxDay, 360, 305419896604, api.OK},
		{most / 2, 1000, 720, 360, most, api.OK}, {most/2 + 1, 1000, 720, 360, 0, api.ErrRange}, {most/256 - 1, 1000, 92160, 360, most - 256, api.OK}, {most / 256, 1000, 92160, 360, most, api.OK}, {most / 256, 1000, 92161, 360, 0, api.ErrRange}, {most/256 + 1, 1000, 92160, 360, 0, api.ErrRange},
		// Rounded down, this is still MaxSum.
		{1096465889195, 1000, 361, 360, most, api.OK}, {1096465889196, 1000, 361, 360, 0, api.ErrRange},
		{3958241859, 1000, api.MaxDay, 360, 1099511627500, api.OK}, {3958241860, 1000, api.MaxDay, 360, 0, api.ErrRange},
	} {
		checkInterest(t, c.sum, c.permille, 0, c.days, c.basis, c.want, c.e)
		checkInterest(t, c.sum, c.permille, api.MaxDay-c.days, api.MaxDay, c.basis, c.want, c.e)
	}
}

// P5.1: each argument that is out of range is found, also where another one makes the result 0, or too great.
func TestInterestArguments(t *testing.T) {
	bad := func(sum, permille, from, to, basis int) {
		t.Helper()
		checkInterest(t, sum, permille, from, to, basis, 0, api.ErrArg)
	}
	for _, other := range []int{0, 1, most} {
		for _, n := range noSums {
			bad(n, 60, 0, 90, 360)
			bad(n, 0, 5, 5, 365)
			bad(n, 1000, 0, api.MaxDay, 360)
		}
		for _, n := range noPermilles {
			bad(other, n, 0, 90, 360)
			bad(other, n, 5, 5, 365)
			bad(other, n, 0, api.MaxDay, 360)
		}
		for _, n := range noDays {
			bad(other, 60, n, 90, 360)
			bad(other, 0, n, api.MaxDay, 365)
			bad(other, 60, 90, n, 365)
			bad(other, 1000, 0, n, 360)
			bad(other, 60, n, n, 360)
		}
		for _, days := range [][2]int{{1, 0}, {90, 89}, {api.MaxDay, 0}, {api.MaxDay, api.MaxDay - 1}} {
			bad(other, 60, days[0], days[1], 360)
			bad(other, 0, days[0], days[1], 365)
		}
		for _, n := range []int{0, 1, -1, -360, -365, 359, 361, 362, 363, 364, 366, 30, 36000, 365000, 1<<32 + 360, 1 << 62, math.MinInt, math.MaxInt} {
			bad(other, 60, 0, 90, n)
			bad(other, 1000, 0, api.MaxDay, n)
			bad(other, 0, 5, 5, n)
		}
	}
}

// P5.1 and P5.2: exact results, by the library's numbers.
func TestExactInterest(t *testing.T) {
	sums := []int{0, 1, 2, 3, 359, 360, 365, 999, 1000, 1001, 359999, 360000, 360001, 364999, 365000, 365001, 1<<31 - 1, 1 << 32, most / 2, most - 1, most}
	for _, sum := range sums {
		for _, permille := range []int{0, 1, 2, 7, 60, 365, 500, 999, 1000} {
			for _, days := range []int{0, 1, 2, 89, 90, 359, 360, 361, 364, 365, 366, 1000, 19999, api.MaxDays, 99999, api.MaxDay} {
				for _, basis := range []int{360, 365} {
					want, e := interest(sum, permille, days, basis)
					checkInterest(t, sum, permille, 0, days, basis, want, e)
				}
				if days <= api.MaxDays {
					want, e := discount(sum, permille, days)
					checkDiscount(t, sum, permille, days, want, e)
				}
			}
		}
	}
	d := newDice()
	for range 50000 {
		sum, permille, to, basis := d.size(most), d.size(1000), d.size(api.MaxDay), d.basis()
		from := d.Intn(to + 1)
		want, e := interest(sum, permille, to-from, basis)
		checkInterest(t, sum, permille, from, to, basis, want, e)
		days := d.size(api.MaxDays)
		want, e = discount(sum, permille, days)
		checkDiscount(t, sum, permille, days, want, e)
	}
}

// P5.2: ordinary discounts, rounded up, and the greatest ones.
func TestDiscount(t *testing.T) {
	for _, c := range []struct {
		sum, permille, days, want int
		e                         api.Errno
	}{
		{1000, 60, 90, 15, api.OK}, {1001, 60, 90, 16, api.OK}, {1000, 60, 91, 16, api.OK}, {1000, 61, 90, 16, api.OK}, {1000, 60, 360, 60, api.OK}, {1000, 60, 365, 61, api.OK}, {999, 60, 90, 15, api.OK},
		{1, 1, 1, 1, api.OK}, {360000, 1, 1, 1, api.OK}, {360001, 1, 1, 2, api.OK}, {359999, 1, 1, 1, api.OK}, {1, 999, 360, 1, api.OK},
		{0, 60, 90, 0, api.OK}, {0, 1000, api.MaxDays, 0, api.OK}, {7, 0, 90, 0, api.OK}, {7, 60, 0, 0, api.OK}, {most, 0, api.MaxDays, 0, api.OK}, {most, 1000, 0, 0, api.OK},
		// All of the sum, and no more.
		{100, 1000, 360, 100, api.OK}, {100, 1000, 361, 0, api.ErrRange}, {1, 1000, 360, 1, api.OK}, {1, 1000, 361, 0, api.ErrRange}, {100, 18, api.MaxDays, 100, api.OK}, {100, 19, api.MaxDays, 0, api.ErrRange}, {1, 18, api.MaxDays, 1, api.OK}, {100, 18, api.MaxDays - 1, 100, api.OK}, {1000000, 18, api.MaxDays - 1, 999950, api.OK}, {1, 1000, api.MaxDays, 0, api.ErrRange}, {100, 20, 18000, 100, api.OK}, {100, 20, 18001, 0, api.ErrRange}, {1, 19, 18947, 1, api.OK}, {1, 19, 18948, 0, api.ErrRange},
		{most, 1000, 360, most, api.OK}, {most, 1000, 361, 0, api.ErrRange}, {most, 1000, 359, 1096457428810, api.OK}, {most, 1000, api.MaxDays, 0, api.ErrRange}, {most, 18, api.MaxDays, most, api.OK}, {most, 19, api.MaxDays, 0, api.ErrRange}, {most - 1, 18, api.MaxDays, most - 1, api.OK}, {most, 1, 1, 3054199, api.OK}, {most, 999, 360, 1098412116149, api.OK},
	} {
		checkDiscount(t, c.sum, c.permille, c.days, c.want, c.e)
	}
}

// P5.2: each argument that is out of range is found, also where another one makes the result 0, or too great.
func TestDiscountArguments(t *testing.T) {
	for _, n := range noSums {
		for _, c := range [][2]int{{60, 90}, {0, 0}, {1000, 0}, {0, api.MaxDays}, {1000, api.MaxDays}} {
			checkDiscount(t, n, c[0], c[1], 0, api.ErrArg)
		}
	}
	for _, n := range noPermilles {
		for _, c := range [][2]int{{100, 90}, {0, 0}, {most, 0}, {0, api.MaxDays}, {most, api.MaxDays}} {
			checkDiscount(t, c[0], n, c[1], 0, api.ErrArg)
		}
	}
	for _, n := range noPeriods {
		for _, c := range [][2]int{{100, 60}, {100, 18}, {0, 0}, {most, 0}, {0, 1000}, {most, 1000}} {
			checkDiscount(t, c[0], c[1], n, 0, api.ErrArg)
		}
	}
}

// P5.4: no call changes what another call returns.
func TestPure(t *testing.T) {
	type results struct {
		interest, discount, value    int
		interestE, discountE, valueE api.Errno
	}
	rates := []api.Rate{{From: 0, To: 1, Num: 3, Den: 2, Since: 5}, {From: 1, To: 0, Num: 2, Den: 7, Since: 50}}
	call := func(sum, n int) (x results) {
		x.interest, x.interestE = money.Interest(sum, n, n, 20*n, 360)
		x.discount, x.discountE = money.Discount(sum, n, 7*n)
		x.value, x.valueE = money.Convert(rates, sum, n%2, 1-n%2, n)
		return x
	}
	sums := []int{-1, 0, 1, 1001, 1 << 33, most, most + 1}
	var first []results
	for _, sum := range sums {
		for n := range 120 {
			first = append(first, call(sum, n))
		}
	}
	for i := len(first) - 1; i >= 0; i-- {
		if sum, n := sums[i/120], i%120; call(sum, n) != first[i] {
			t.Errorf("the results for %d and %d are not always the same", sum, n)
		}
	}
}

// checkSplit checks that two parts together have what the whole has, or 1 less.
func checkSplit(t *testing.T, what string, part, rest, whole int) {
	t.Helper()
	if both := part + rest; both > whole || both < whole-1 {
		t.Errorf("%s: %d and %d, of the whole %d", what, part, rest, whole)
	}
}

// calls keeps the first error of several calls.
type calls struct{ e api.Errno }

// take returns the result of a call.
func (c *calls) take(n int, e api.Errno) int {
	if c.e == api.OK {
		c.e = e
	}
	return n
}

// P5.5: a sum, or a period, that is split in two.
func TestSplit(t *testing.T) {
	d := newDice()
	checked := 0
	for range 50000 {
		sum, permille, days, basis := d.size(most), d.size(1000), d.size(api.MaxDays), d.basis()
		part, early, from := d.Intn(sum+1), d.Intn(days+1), d.Intn(1000)
		rates := []api.Rate{{To: 1, Num: d.part(), Den: d.part()}}
		// A part of what has a result has one too.
		var c calls
		if whole, e := money.Interest(sum, permille, from, from+days, basis); e == api.OK {
			checked++
			checkSplit(t, "interest of sums", c.take(money.Interest(part, permille, from, from+days, basis)), c.take(money.Interest(sum-part, permille, from, from+days, basis)), whole)
			checkSplit(t, "interest of periods", c.take(money.Interest(sum, permille, from, from+early, basis)), c.take(money.Interest(sum, permille, from+early, from+days, basis)), whole)
		}
		if value, e := money.Convert(rates, sum, 0, 1, 0); e == api.OK {
			checked++
			checkSplit(t, "conversion", c.take(money.Convert(rates, part, 0, 1, 0)), c.take(money.Convert(rates, sum-part, 0, 1, 0)), value)
		}
		if whole, e := money.Discount(sum, permille, days); e == api.OK {
			checked++
			// Of discounts, it is the parts that have 1 more.
			checkSplit(t, "discount of sums", -c.take(money.Discount(part, permille, days)), -c.take(money.Discount(sum-part, permille, days)), -whole)
			checkSplit(t, "discount of periods", -c.take(money.Discount(sum, permille, early)), -c.take(money.Discount(sum, permille, days-early)), -whole)
		}
		if c.e != api.OK {
			t.Errorf("%d, %d, %d: error %d of a part", sum, permille, days, c.e)
		}
		if t.Failed() {
			return
		}
	}
	if checked < 40000 {
		t.Errorf("only %d were checked", checked)
	}
}

// P5.6: a greater sum, a greater rate and a longer period have no less; too much stays too much.
func TestGreater(t *testing.T) {
	const never = math.MaxInt // more than any result
	value := func(n int, e api.Errno) int {
		if e == api.ErrRange {
			return never
		}
		if e != api.OK {
			t.Errorf("error %d", e)
		}
		return n
	}
	d := newDice()
	for range 50000 {
		sum, permille, days, basis := d.size(most), d.size(1000), d.size(api.MaxDays), d.basis()
		more, faster, longer := sum+d.Intn(most-sum+1), permille+d.Intn(1001-permille), days+d.Intn(api.MaxDays-days+1)
		least := value(money.Interest(sum, permille, 0, days, basis))
		for _, n := range []int{value(money.Interest(more, permille, 0, days, basis)), value(money.Interest(sum, faster, 0, days, basis)), value(money.Interest(sum, permille, 0, longer, basis))} {
			if n < least {
				t.Errorf("%d, %d, %d: interest %d, and more is %d", sum, permille, days, least, n)
			}
		}
		if least, e := money.Discount(sum, permille, days); e == api.OK {
			for _, n := range []int{value(money.Discount(more, permille, days)), value(money.Discount(sum, faster, days)), value(money.Discount(sum, permille, longer))} {
				if n < least {
					t.Errorf("%d, %d, %d: discount %d, and more is %d", sum, permille, days, least, n)
				}
			}
		}
		if t.Failed() {
			return
		}
	}
}

// P5.6: a discount is the interest with the basis 360, or 1 more.
func TestDiscountAndInterest(t *testing.T) {
	d := newDice()
	var times [2]int
	for range 50000 {
		sum, permille, days := d.size(most), d.size(1000), d.size(api.MaxDays)
		n, e := money.Discount(sum, permille, days)
		if e != api.OK {
			continue
		}
		m, e := money.Interest(sum, permille, 0, days, 360)
		if e != api.OK || n != m && n != m+1 {
			t.Fatalf("%d, %d, %d: discount %d, interest %d, %d", sum, permille, days, n, m, e)
		}
		times[n-m]++
	}
	if slices.Min(times[:]) < 1000 {
		t.Errorf("only %v were checked", times)
	}
}
