package wording_test

import (
	"math"
	"strconv"
	"strings"
	"testing"

	"allonge/api"
	"allonge/wording"
)

// Numbers that are no index of any list here, nor in the range of any field.
var wild = []int{-2, -3, -1 << 32, math.MinInt, math.MinInt + 1, 1<<40 + 1, 1 << 62, math.MaxInt - 1, math.MaxInt}

// chapterRealm returns the realm of the chapter's example.
func chapterRealm() api.Realm {
	return api.Realm{
		Currencies: []string{"franc"},
		Cities:     []api.City{{Name: "Lyon"}},
		Groups:     []api.Group{{}},
		Firms:      []api.Firm{{Name: "Bodmer"}, {Name: "Hope"}},
		Orders:     []api.Order{{Name: "geneva"}},
	}
}

// fair returns a realm with names that also are words of the wording.
func fair() api.Realm {
	return api.Realm{
		Currencies: []string{"franc", "with", "per"},
		Cities:     []api.City{{Name: "Lyon"}, {Name: "London", Currency: 1}, {Name: "in"}, {Name: "on", Currency: 2}},
		Groups:     []api.Group{{Grade: 1}, {Grade: 4}},
		Firms:      []api.Firm{{Name: "Bodmer"}, {Name: "Hope", City: 1}, {Name: "bearer", Group: 1}, {Name: "or", City: 2}, {Name: "a_1"}},
		Orders:     []api.Order{{Name: "geneva"}},
		Usances:    []api.Usance{{From: 1, To: 0, Days: 30}, {From: 0, To: 1, Days: 60}, {From: 3, To: 3, Days: 7}},
	}
}

// plain returns a right bill of the realm fair.
func plain() api.Bill {
	return api.Bill{Drawer: 0, Drawee: 1, Payee: 4, Sum: 500, Day: 30, Pay: 1, Need: api.None, Parts: 1}
}

// plainText is the wording of its part.
const plainText = `paper 1 of 1
drawn in Lyon on 2000-1-31
pay at sight
to a_1 or order
500 franc
to be paid by Hope in London
signed Bodmer
`

// changed returns a right bill with a change.
func changed(change func(b *api.Bill)) api.Bill {
	b := plain()
	change(&b)
	return b
}

// edited returns the wording of a right bill with a change of one place.
func edited(t *testing.T, old, new string) string {
	t.Helper()
	if n := strings.Count(plainText, old); n != 1 {
		t.Fatalf("%q stands in the text %d times", old, n)
	}
	return strings.Replace(plainText, old, new, 1)
}

// A verdict is a bill, and what Check says of it.
type verdict struct {
	name string
	bill api.Bill
	want api.Errno
}

func checkVerdicts(t *testing.T, r api.Realm, l []verdict) {
	t.Helper()
	for _, c := range l {
		if got := wording.Check(r, c.bill); got != c.want {
			t.Errorf("%s: Check = %d, want %d", c.name, got, c.want)
		}
		if got := wording.Text(r, c.bill, 0); (got != "") != (c.want == api.OK) {
			t.Errorf("%s: Text = %q", c.name, got)
		}
	}
}

// checkReads checks that a text is the wording of a part of a bill, both ways.
func checkReads(t *testing.T, r api.Realm, b api.Bill, part int, text string) {
	t.Helper()
	if got := wording.Text(r, b, part); got != text {
		t.Errorf("Text = %q, want %q", got, text)
	}
	got, at, e := wording.Parse(r, text)
	if got != b || at != part || e != api.OK {
		t.Errorf("Parse(%q) = %+v, %d, %d, want %+v, %d", text, got, at, e, b, part)
	}
}

// checkRefused checks that a text is the wording of no part of any bill.
func checkRefused(t *testing.T, r api.Realm, text string) {
	t.Helper()
	b, part, e := wording.Parse(r, text)
	if b != (api.Bill{}) || part != 0 || e != api.ErrSyntax {
		t.Errorf("Parse(%q) = %+v, %d, %d", text, b, part, e)
	}
	if wording.Alike(r, text, text) {
		t.Errorf("%q is alike itself", text)
	}
}

// P10.1, P10.2, P10.3: the chapter's example.
func TestChapterExample(t *testing.T) {
	r := chapterRealm()
	b := api.Bill{Drawer: 0, Drawee: 1, Payee: api.None, Sum: 500, Day: 59, Need: api.None, Flags: api.FlWord, Parts: 2}
	if e := wording.Check(r, b); e != api.OK {
		t.Errorf("Check = %d", e)
	}
	checkReads(t, r, b, 1, `bill 2 of 2
drawn in Lyon on 2000-2-29
pay at sight
to bearer
500 franc
to be paid by Hope in Lyon
unless part 1 was paid
signed Bodmer
`)
}

// P10.1: firms, cities and the currency are those of the realm; None is a payee, and nobody in case of need.
func TestPlaces(t *testing.T) {
	r := fair()
	fields := []struct {
		name string
		at   func(b *api.Bill) *int
		n    int
		none api.Errno
	}{
		{"Drawer", func(b *api.Bill) *int { return &b.Drawer }, 5, api.ErrArg},
		{"Drawee", func(b *api.Bill) *int { return &b.Drawee }, 5, api.ErrArg},
		{"Payee", func(b *api.Bill) *int { return &b.Payee }, 5, api.OK},
		{"Need", func(b *api.Bill) *int { return &b.Need }, 5, api.OK},
		{"Currency", func(b *api.Bill) *int { return &b.Currency }, 3, api.ErrArg},
		{"City", func(b *api.Bill) *int { return &b.City }, 4, api.ErrArg},
		{"Pay", func(b *api.Bill) *int { return &b.Pay }, 4, api.ErrArg},
	}
	for _, f := range fields {
		set := func(n int) api.Bill { return changed(func(b *api.Bill) { *f.at(b) = n }) }
		for i := range f.n {
			checkVerdicts(t, r, []verdict{{f.name + " " + strconv.Itoa(i), set(i), api.OK}})
		}
		checkVerdicts(t, r, []verdict{{f.name + " None", set(api.None), f.none}})
		for _, n := range append([]int{f.n}, wild...) {
			checkVerdicts(t, r, []verdict{{f.name + " " + strconv.Itoa(n), set(n), api.ErrArg}})
		}
	}
}

// P10.1: the ranges of the sum, the day, the interest clause, the parts and the flags.
func TestRanges(t *testing.T) {
	r := fair()
	fields := []struct {
		name   string
		at     func(b *api.Bill) *int
		lo, hi int
		want   api.Errno
	}{
		{"Sum", func(b *api.Bill) *int { return &b.Sum }, 1, 1 << 40, api.ErrRange},
		{"Day", func(b *api.Bill) *int { return &b.Day }, 0, 100000, api.ErrRange},
		{"Rate", func(b *api.Bill) *int { return &b.Rate }, 0, 1000, api.ErrRange},
		{"Parts", func(b *api.Bill) *int { return &b.Parts }, 1, 4, api.ErrPart},
		{"Flags", func(b *api.Bill) *int { return &b.Flags }, 0, 7, api.ErrForm},
	}
	for _, f := range fields {
		set := func(n int) api.Bill { return changed(func(b *api.Bill) { *f.at(b) = n }) }
		for _, n := range []int{f.lo, f.lo + 1, f.hi / 2, f.hi - 1, f.hi} {
			checkVerdicts(t, r, []verdict{{f.name + " " + strconv.Itoa(n), set(max(n, f.lo)), api.OK}})
		}
		for _, n := range append([]int{f.lo - 1, f.hi + 1}, wild...) {
			checkVerdicts(t, r, []verdict{{f.name + " " + strconv.Itoa(n), set(n), f.want}})
		}
	}
}

// P10.1: a bill to bearer may have all flags but the one that forbids an order.
func TestFlags(t *testing.T) {
	for flags := range api.FlAll + 1 {
		want := api.OK
		if flags&api.FlNotToOrder != 0 {
			want = api.ErrForm
		}
		checkVerdicts(t, fair(), []verdict{
			{"to bearer, flags " + strconv.Itoa(flags), changed(func(b *api.Bill) { b.Payee, b.Flags = api.None, flags }), want},
			{"to a firm, flags " + strconv.Itoa(flags), changed(func(b *api.Bill) { b.Flags = flags }), api.OK},
		})
	}
}

// P10.1: each kind of tenor with its numbers and units.
func TestTenors(t *testing.T) {
	r := fair()
	kinds := []struct {
		kind, lo, hi, units int
	}{
		{api.TnSight, 0, 0, 1},
		{api.TnAfterSight, 1, 400, 2},
		{api.TnAfterDate, 1, 400, 2},
		{api.TnFixed, 30, 100000, 1},
		{api.TnUsance, 0, 0, 1},
	}
	for _, k := range kinds {
		numbers := append([]int{-1, 0, 1, 2, 29, 30, 31, 399, 400, 401, 99999, 100000, 100001}, wild...)
		for _, n := range numbers {
			for _, unit := range append([]int{-1, 0, 1, 2}, wild...) {
				want := api.ErrForm
				if k.lo <= n && n <= k.hi && 0 <= unit && unit < k.units {
					want = api.OK
				}
				tenor := api.Tenor{Kind: k.kind, N: n, Unit: unit}
				name := "tenor " + strconv.Itoa(k.kind) + " " + strconv.Itoa(n) + " " + strconv.Itoa(unit)
				checkVerdicts(t, r, []verdict{{name, changed(func(b *api.Bill) { b.Tenor = tenor }), want}})
			}
		}
	}
	for _, kind := range append([]int{-1, api.TnKinds}, wild...) {
		for n := range 3 {
			bill := changed(func(b *api.Bill) { b.Tenor = api.Tenor{Kind: kind, N: n} })
			checkVerdicts(t, r, []verdict{{"kind " + strconv.Itoa(kind), bill, api.ErrForm}})
		}
	}
}

// P10.1: a usance from the city of drawing to that of payment, and no other one.
func TestUsances(t *testing.T) {
	r := fair()
	for from := range r.Cities {
		for to := range r.Cities {
			want := api.ErrNone
			if (from == 0 && to == 1) || (from == 1 && to == 0) || (from == 3 && to == 3) {
				want = api.OK
			}
			at := func(kind int) api.Bill {
				return changed(func(b *api.Bill) { b.City, b.Pay, b.Tenor.Kind = from, to, kind })
			}
			name := "from " + strconv.Itoa(from) + " to " + strconv.Itoa(to)
			checkVerdicts(t, r, []verdict{
				{"usance " + name, at(api.TnUsance), want},
				{"sight " + name, at(api.TnSight), api.OK},
			})
		}
	}
}

// P10.1, P2: of several errors the one that the chapter names first.
func TestErrorOrder(t *testing.T) {
	steps := []struct {
		want api.Errno
		bend func(b *api.Bill)
	}{
		{api.ErrNone, func(b *api.Bill) { b.Tenor.Kind, b.Pay = api.TnUsance, 0 }},
		{api.ErrForm, func(b *api.Bill) { b.Flags = 8 }},
		{api.ErrPart, func(b *api.Bill) { b.Parts = 5 }},
		{api.ErrRange, func(b *api.Bill) { b.Rate = 1001 }},
		{api.ErrArg, func(b *api.Bill) { b.Need = 5 }},
	}
	r, b := fair(), plain()
	for _, s := range steps {
		s.bend(&b)
		checkVerdicts(t, r, []verdict{{"error " + strconv.Itoa(int(s.want)), b, s.want}})
	}
	r.Usances = append(r.Usances, r.Usances[0])
	checkVerdicts(t, r, []verdict{{"realm", b, api.ErrTwice}})
	r.Firms[0].Name = "2nd"
	checkVerdicts(t, r, []verdict{{"realm", b, api.ErrForm}})
	late := changed(func(b *api.Bill) { b.Tenor.Kind, b.Tenor.N, b.Pay = api.TnUsance, 1, 0 })
	checkVerdicts(t, fair(), []verdict{{"tenor before usance", late, api.ErrForm}})
}

// P10.1, P10.2, P10.3: in a realm that is not right no bill is right, and no text is a wording.
func TestWrongRealms(t *testing.T) {
	bends := []struct {
		want api.Errno
		bend func(r *api.Realm)
	}{
		{api.ErrTwice, func(r *api.Realm) { r.Firms[3].Name = "Hope" }},
		{api.ErrForm, func(r *api.Realm) { r.Firms[3].Name = "" }},
		{api.ErrForm, func(r *api.Realm) { r.Currencies[1] = "a b" }},
		{api.ErrArg, func(r *api.Realm) { r.Groups[1].Grade = 10 }},
		{api.ErrArg, func(r *api.Realm) { r.Cities[3].Rest = []int{7} }},
		{api.ErrFull, func(r *api.Realm) { r.Halts = make([]api.Halt, api.MaxHalts+1) }},
	}
	for _, c := range bends {
		r := fair()
		c.bend(&r)
		checkVerdicts(t, r, []verdict{{"bill", plain(), c.want}})
		checkRefused(t, r, plainText)
		checkRefused(t, r, "")
	}
	checkVerdicts(t, api.Realm{}, []verdict{{"no realm", plain(), api.ErrArg}})
	checkRefused(t, api.Realm{}, plainText)
}

// P10.2, P10.3: each line of a wording.
func TestTexts(t *testing.T) {
	r := fair()
	for _, c := range []struct {
		name string
		bend func(b *api.Bill)
		old  string
		text string
	}{
		{"plain", func(b *api.Bill) {}, "paper", "paper"},
		{"word", func(b *api.Bill) { b.Flags = api.FlWord }, "paper", "bill"},
		{"city and day", func(b *api.Bill) { b.City, b.Day = 2, 0 }, "Lyon on 2000-1-31", "in on 2000-1-1"},
		{"last day", func(b *api.Bill) { b.City, b.Day = 3, api.MaxDay }, "Lyon on 2000-1-31", "on on 2273-10-16"},
		{"after sight", func(b *api.Bill) { b.Tenor = api.Tenor{Kind: api.TnAfterSight, N: 1} }, "at sight", "1 days after sight"},
		{"months after sight", func(b *api.Bill) { b.Tenor = api.Tenor{Kind: api.TnAfterSight, N: 400, Unit: 1} }, "at sight", "400 months after sight"},
		{"after date", func(b *api.Bill) { b.Tenor = api.Tenor{Kind: api.TnAfterDate, N: 60} }, "at sight", "60 days after date"},
		{"months after date", func(b *api.Bill) { b.Tenor = api.Tenor{Kind: api.TnAfterDate, N: 1, Unit: 1} }, "at sight", "1 months after date"},
		{"fixed", func(b *api.Bill) { b.Tenor = api.Tenor{Kind: api.TnFixed, N: 30} }, "at sight", "on 2000-1-31"},
		{"usance", func(b *api.Bill) { b.Tenor.Kind = api.TnUsance }, "at sight", "at usance"},
		{"bearer", func(b *api.Bill) { b.Payee = api.None }, "to a_1 or order", "to bearer"},
		{"a firm named bearer", func(b *api.Bill) { b.Payee = 2 }, "to a_1 or order", "to bearer or order"},
		{"not to bearer's order", func(b *api.Bill) { b.Payee, b.Flags = 2, api.FlNotToOrder }, "to a_1 or order", "to bearer not to order"},
		{"a firm named or", func(b *api.Bill) { b.Payee = 3 }, "to a_1 or order", "to or or order"},
		{"sum", func(b *api.Bill) { b.Sum, b.Currency = 1<<40, 1 }, "500 franc", "1099511627776 with"},
		{"interest", func(b *api.Bill) { b.Sum, b.Currency, b.Rate = 1, 1, 1000 }, "500 franc", "1 with with interest at 1000 per mille"},
		{"little interest", func(b *api.Bill) { b.Currency, b.Rate = 2, 1 }, "500 franc", "500 per with interest at 1 per mille"},
		{"drawee and place", func(b *api.Bill) { b.Drawee, b.Pay = 3, 2 }, "Hope in London", "or in in"},
		{"need", func(b *api.Bill) { b.Need = 0 }, "signed", "in need ask Bodmer\nsigned"},
		{"without protest", func(b *api.Bill) { b.Flags = api.FlNoProtest }, "signed", "without protest\nsigned"},
		{"need, without protest", func(b *api.Bill) { b.Need, b.Flags = 1, api.FlNoProtest }, "signed", "in need ask Hope\nwithout protest\nsigned"},
		{"drawer", func(b *api.Bill) { b.Drawer = 4 }, "signed Bodmer", "signed a_1"},
	} {
		t.Run(c.name, func(t *testing.T) {
			checkReads(t, r, changed(c.bend), 0, edited(t, c.old, c.text))
		})
	}
}

// P10.2, P10.3: the lines with the numbers of the parts.
func TestParts(t *testing.T) {
	r := fair()
	others := [][]string{
		{""},
		{"2", "1"},
		{"2 or 3", "1 or 3", "1 or 2"},
		{"2 or 3 or 4", "1 or 3 or 4", "1 or 2 or 4", "1 or 2 or 3"},
	}
	for i, l := range others {
		b := changed(func(b *api.Bill) { b.Parts = i + 1 })
		for part, s := range l {
			text := edited(t, "1 of 1", strconv.Itoa(part+1)+" of "+strconv.Itoa(i+1))
			if s != "" {
				text = strings.Replace(text, "signed", "unless part "+s+" was paid\nsigned", 1)
			}
			checkReads(t, r, b, part, text)
		}
		for _, part := range append([]int{-1, b.Parts, b.Parts + 1, api.MaxParts}, wild...) {
			if got := wording.Text(r, b, part); got != "" {
				t.Errorf("Text of part %d of %d = %q", part, b.Parts, got)
			}
		}
	}
}

// P10.2: the longest wording has at most MaxText bytes.
func TestLongest(t *testing.T) {
	long := func(s string) string { return s + strings.Repeat("x", api.MaxName-1) }
	r := api.Realm{
		Currencies: []string{long("c")},
		Cities:     []api.City{{Name: long("t")}},
		Groups:     []api.Group{{}},
		Firms:      []api.Firm{{Name: long("f")}},
		Orders:     []api.Order{{Name: long("o")}},
	}
	b := api.Bill{Sum: api.MaxSum, Day: api.MaxDay, Rate: 1000, Flags: api.FlAll, Parts: 4, Tenor: api.Tenor{Kind: api.TnAfterSight, N: 400, Unit: 1}}
	for part := range 4 {
		text := wording.Text(r, b, part)
		checkReads(t, r, b, part, text)
		if len(text) == 0 || len(text) > api.MaxText || strings.Count(text, "\n") != 10 {
			t.Errorf("%d bytes: %q", len(text), text)
		}
	}
}

// P10.3: texts that are not quite wordings.
func TestRefusedTexts(t *testing.T) {
	r := fair()
	for _, c := range [][2]string{
		{"paper 1", "paper 0"}, {"1 of 1", "2 of 1"}, {"1 of 1", "01 of 1"}, {"1 of 1", "1 of 01"}, {"1 of 1", "1 of 0"},
		{"1 of 1", "1 of 5"}, {"1 of 1", "1 of 2"}, {"1 of 1", "-1 of 1"}, {"1 of 1", "+1 of 1"}, {"1 of 1", "0 of 1"}, {"1 of 1", "1 of"},
		{"paper", "Paper"}, {"paper", "bills"}, {"paper ", "paper  "}, {"paper ", " paper "}, {"paper ", ""}, {"of 1", "of 1 "},
		{"drawn", "Drawn"}, {"Lyon", "lyon"}, {"Lyon", "Lyons"}, {"Lyon", "Hope"}, {"Lyon", ""}, {"Lyon ", "Lyon"},
		{"2000-1-31", "2000-01-31"}, {"2000-1-31", "2000-1-031"}, {"2000-1-31", "02000-1-31"}, {"2000-1-31", "2000-1-32"},
		{"2000-1-31", "2000-2-30"}, {"2000-1-31", "2001-2-29"}, {"2000-1-31", "1999-12-31"}, {"2000-1-31", "2273-10-17"}, {"2000-1-31", "2000-13-1"},
		{"2000-1-31", "2000-0-31"}, {"2000-1-31", "2000-1-0"}, {"2000-1-31", "2000-1"}, {"2000-1-31", "2000--1-31"}, {"2000-1-31", "30"}, {"2000-1-31", ""},
		{"2000-1-31", "9223372036854775808-1-31"}, {"2000-1-31", "18446744073709553616-1-31"}, {"2000-1-31", "2000/1/31"},
		{"at sight", "at Sight"}, {"at sight", "0 days after sight"}, {"at sight", "401 days after sight"}, {"at sight", "401 months after date"},
		{"at sight", "1 day after sight"}, {"at sight", "1 month after date"}, {"at sight", "01 days after date"}, {"at sight", "1 days"},
		{"at sight", "1 years after date"}, {"at sight", "1 days after usance"}, {"at sight", "on 2000-1-30"}, {"at sight", "on 2273-10-17"}, {"at sight", "on"},
		{"at sight", "1  days after sight"}, {"at sight", "days after sight"}, {"at sight", "1 days  after sight"}, {"at sight", "18446744073709551617 days after sight"},
		{"at sight", "on 2000-02-01"}, {"at sight", ""}, {"at sight", "at sight at sight"}, {"at sight", "on 31"}, {"at sight", "-1 days after date"},
		{"to a_1 or order", "to a_1"}, {"to a_1 or order", "to nobody or order"}, {"to a_1 or order", "to a_1 to order"}, {"to a_1 or order", "to bearer "},
		{"to a_1 or order", "to a_1 or order not to order"}, {"to a_1 or order", "to Lyon or order"}, {"to a_1 or order", "to  or order"}, {"to a_1 or order", "to"},
		{"to a_1 or order", "to bearer not"}, {"to a_1 or order", "to bearer\nto a_1 or order"}, {"to a_1 or order", "to Bearer"},
		{"500", "0"}, {"500", "0500"}, {"500", "1099511627777"}, {"500", "9223372036854775808"}, {"500", "18446744073709552116"}, {"500", "-500"}, {"500", "+500"},
		{"500", "500.0"}, {"500", ""}, {"500 ", "500"}, {"franc", "pound"}, {"franc", "Hope"}, {"franc", ""}, {"franc", "0"}, {"franc", "francs"}, {"franc", "franc "},
		{"franc", "franc with interest at 0 per mille"}, {"franc", "franc with interest at 1001 per mille"}, {"franc", "franc with interest at 05 per mille"},
		{"franc", "franc with interest at 5 per cent"}, {"franc", "franc with interest"}, {"franc", "franc with interest at 5"}, {"franc", "franc with interest at  per mille"},
		{"franc", "franc with interest at 5 per mille with interest at 5 per mille"}, {"franc", "franc with interest at 5 per mille "},
		{"to be paid by Hope", "to be paid by hope"}, {"to be paid by Hope", "to be paid by Lyon"}, {"to be paid by Hope", "to be paid by  Hope"}, {"to be paid by", "paid by"},
		{"in London", "on London"}, {"in London", "in Hope"}, {"in London", "in"}, {"in London", "in London "}, {" in London", ""},
		{"signed", "unless part 1 was paid\nsigned"}, {"signed", "unless part 2 was paid\nsigned"}, {"signed", "unless part  was paid\nsigned"}, {"signed", "unless part \nsigned"},
		{"signed", "in need ask\nsigned"}, {"signed", "in need ask nobody\nsigned"}, {"signed", "in need ask Lyon\nsigned"}, {"signed", "in need ask Hope\nin need ask Hope\nsigned"},
		{"signed", "in need ask Hope \nsigned"}, {"signed", "without protest \nsigned"}, {"signed", "without Protest\nsigned"}, {"signed", "without protest\nwithout protest\nsigned"},
		{"signed", "without protest\nin need ask Hope\nsigned"}, {"signed", "\nsigned"}, {"signed", "Signed"}, {"signed", "signed by"}, {"signed Bodmer", "signed"},
		{"signed Bodmer\n", ""}, {"signed Bodmer\n", "signed Bodmer"}, {"signed Bodmer\n", "signed Bodmer "}, {"signed Bodmer\n", "signed Bodmer\n\n"}, {"signed Bodmer\n", "signed Bodmer\r\n"},
		{"signed Bodmer\n", "signed Bodmer\nx"}, {"signed Bodmer\n", "signed Bodmer\x00\n"}, {"Bodmer", "London"}, {"Bodmer", "bodmer"}, {"Bodmer", ""},
		{"drawn in Lyon on 2000-1-31\n", ""}, {"pay at sight\n", ""}, {"to a_1 or order\n", ""}, {"500 franc\n", ""}, {"to be paid by Hope in London\n", ""},
	} {
		checkRefused(t, r, edited(t, c[0], c[1]))
	}
	for _, text := range []string{"", "\n", "x", " ", "paper", "bill", plainText[1:], plainText + "x", plainText + plainText, "\n" + plainText, " " + plainText, "\ufeff" + plainText, strings.ReplaceAll(plainText, "\n", "\r\n"), strings.ReplaceAll(plainText, "\n", "|"), strings.ToUpper(plainText), strings.Repeat("1", 1<<16)} {
		checkRefused(t, r, text)
	}
}

// P10.3: what the lines about the other parts and the orders say has to agree with the other lines.
func TestLinesAgree(t *testing.T) {
	r := fair()
	b := changed(func(b *api.Bill) { b.Parts = 3 })
	text := wording.Text(r, b, 1)
	for _, s := range []string{"", "1", "3", "2 or 3", "1 or 2", "3 or 1", "1 or 3 or 4", "1 or 2 or 3", "1 and 3", "1 or  3", "01 or 3", "1 or 3 was paid\nunless part 1 or 3", "1 or 3 "} {
		checkRefused(t, r, strings.Replace(text, "1 or 3", s, 1))
	}
	checkRefused(t, r, strings.Replace(text, "unless part 1 or 3 was paid\n", "", 1))
	checkRefused(t, r, strings.Replace(text, "was paid", "were paid", 1))
	checkRefused(t, r, strings.Replace(text, "2 of 3", "1 of 3", 1))
	checkRefused(t, r, strings.Replace(text, "2 of 3", "2 of 4", 1))
	checkRefused(t, r, strings.Replace(text, "2 of 3", "4 of 3", 1))
	checkRefused(t, r, strings.Replace(text, "2 of 3", "0 of 3", 1))
	usance := wording.Text(r, changed(func(b *api.Bill) { b.Tenor.Kind = api.TnUsance }), 0)
	checkRefused(t, r, strings.Replace(usance, "London", "Lyon", 1))
	fixed := wording.Text(r, changed(func(b *api.Bill) { b.Tenor = api.Tenor{Kind: api.TnFixed, N: 30} }), 0)
	checkRefused(t, r, strings.Replace(fixed, "2000-1-31", "2000-2-1", 1))
}

// P10.4: parts of one bill are alike, those of others and other texts are not.
func TestAlike(t *testing.T) {
	r := fair()
	set := changed(func(b *api.Bill) { b.Parts = 4 })
	other := changed(func(b *api.Bill) { b.Parts, b.Sum = 4, 501 })
	fewer := changed(func(b *api.Bill) { b.Parts = 3 })
	text := func(b api.Bill, part int) string { return wording.Text(r, b, part) }
	for _, c := range []struct {
		name string
		a, b string
		want bool
	}{
		{"the same part", text(set, 2), text(set, 2), true},
		{"two parts", text(set, 0), text(set, 3), true},
		{"another sum", text(set, 0), text(other, 0), false},
		{"another number of parts", text(set, 0), text(fewer, 0), false},
		{"another bill, another part", text(set, 0), text(other, 1), false},
		{"no texts", "", "", false},
		{"one text", plainText, "", false},
		{"equal texts that are no wordings", "x", "x", false},
		{"another text", plainText, plainText + "\n", false},
	} {
		if got := wording.Alike(r, c.a, c.b); got != c.want {
			t.Errorf("%s: Alike = %v", c.name, got)
		}
		if got := wording.Alike(r, c.b, c.a); got != c.want {
			t.Errorf("%s, the other way round: Alike = %v", c.name, got)
		}
	}
	r.Firms[4].Name = "Hope"
	if wording.Alike(r, plainText, plainText) {
		t.Error("texts are alike in a realm that is not right")
	}
}

// P10.3: a text is read by the names of the realm in which it is read.
func TestOtherRealm(t *testing.T) {
	r := fair()
	r.Firms[0], r.Firms[4] = r.Firms[4], r.Firms[0]
	r.Cities = r.Cities[:2]
	r.Cities[0], r.Cities[1] = r.Cities[1], r.Cities[0]
	r.Currencies = []string{"pound", "livre", "franc"}
	r.Firms[3].City, r.Usances = 0, nil
	checkReads(t, r, api.Bill{Drawer: 4, Drawee: 1, Payee: 0, Sum: 500, Currency: 2, Day: 30, City: 1, Pay: 0, Need: api.None, Parts: 1}, 0, plainText)
	r.Currencies = r.Currencies[:2]
	checkRefused(t, r, plainText)
}
