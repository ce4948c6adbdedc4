package wording_test

import (
	"fmt"
	"math/rand"
	"reflect"
	"regexp"
	"slices"
	"strconv"
	"strings"
	"sync"
	"testing"
	"time"

	"allonge/api"
	"allonge/realm"
	"allonge/wording"
)

// dice makes realms and bills by chance, always the same ones.
type dice struct{ *rand.Rand }

func newDice() dice {
	return dice{rand.New(rand.NewSource(10))}
}

// names returns different names, some of which are words of the wording.
func (d dice) names(n int) []string {
	l := []string{"bearer", "or", "to", "not", "in", "on", "at", "pay", "with", "paper", "bill", "signed", "Hope", "Hop", "hope", "H", "Bodmer", "a_1", "n0", strings.Repeat("z", api.MaxName)}
	d.Shuffle(len(l), func(i, j int) { l[i], l[j] = l[j], l[i] })
	return l[:n]
}

// realm returns a right realm.
func (d dice) realm() api.Realm {
	r := api.Realm{
		Currencies: d.names(1 + d.Intn(4)),
		Groups:     make([]api.Group, 1+d.Intn(3)),
		Orders:     []api.Order{{Name: "geneva"}, {Name: "london", Accepts: true}},
	}
	for _, name := range d.names(1 + d.Intn(5)) {
		r.Cities = append(r.Cities, api.City{Name: name, Order: d.Intn(2), Currency: d.Intn(len(r.Currencies)), Rest: []int{5, 6}})
	}
	for _, name := range d.names(1 + d.Intn(7)) {
		r.Firms = append(r.Firms, api.Firm{Name: name, City: d.Intn(len(r.Cities)), Group: d.Intn(len(r.Groups))})
	}
	for from := range r.Cities {
		for to := range r.Cities {
			if d.Intn(2) == 0 {
				r.Usances = append(r.Usances, api.Usance{From: from, To: to, Days: 1 + d.Intn(90)})
			}
		}
	}
	return r
}

// maybe returns None, or a number less than n.
func (d dice) maybe(n int) int {
	if d.Intn(3) == 0 {
		return api.None
	}
	return d.Intn(n)
}

// edge returns a number from lo to hi, often one at an end.
func (d dice) edge(lo, hi int) int {
	switch d.Intn(4) {
	case 0:
		return lo
	case 1:
		return hi
	}
	return lo + d.Intn(hi-lo+1)
}

// bill returns a right bill.
func (d dice) bill(r api.Realm) api.Bill {
	b := api.Bill{
		Drawer: d.Intn(len(r.Firms)), Drawee: d.Intn(len(r.Firms)), Payee: d.maybe(len(r.Firms)), Need: d.maybe(len(r.Firms)),
		Sum: d.edge(1, api.MaxSum), Currency: d.Intn(len(r.Currencies)), Day: d.edge(0, api.MaxDay), Rate: d.edge(0, 1000),
		City: d.Intn(len(r.Cities)), Pay: d.Intn(len(r.Cities)), Flags: d.Intn(api.FlAll + 1), Parts: 1 + d.Intn(api.MaxParts),
	}
	if b.Payee == api.None {
		b.Flags &^= api.FlNotToOrder
	}
	switch b.Tenor.Kind = d.Intn(api.TnKinds); b.Tenor.Kind {
	case api.TnAfterSight, api.TnAfterDate:
		b.Tenor.N, b.Tenor.Unit = d.edge(1, 400), d.Intn(2)
	case api.TnFixed:
		b.Tenor.N = d.edge(b.Day, api.MaxDay)
	case api.TnUsance:
		if !slices.ContainsFunc(r.Usances, func(u api.Usance) bool { return u.From == b.City && u.To == b.Pay }) {
			b.Tenor.Kind = api.TnSight
		}
	}
	return b
}

// fields returns the numbers of a bill.
func fields(b *api.Bill) []*int {
	return []*int{&b.Drawer, &b.Drawee, &b.Payee, &b.Sum, &b.Currency, &b.Tenor.Kind, &b.Tenor.N, &b.Tenor.Unit, &b.Day, &b.City, &b.Pay, &b.Need, &b.Rate, &b.Flags, &b.Parts}
}

// spoil changes numbers of a bill.
func (d dice) spoil(b *api.Bill) {
	bounds := []int{-1, 0, 1, 2, 3, 5, 7, 8, 30, 400, 401, 1000, 1001, api.MaxDay, api.MaxDay + 1, api.MaxSum, api.MaxSum + 1, -5, 1 << 62, -1 << 62}
	if d.Intn(6) == 0 {
		b.Tenor = api.Tenor{Kind: api.TnUsance}
		return
	}
	l := fields(b)
	for range 1 + d.Intn(3) {
		*l[d.Intn(len(l))] = bounds[d.Intn(len(bounds))]
	}
}

// modelCheck returns all errors of a bill of a right realm, the ones that the chapter names first first.
func modelCheck(r api.Realm, b api.Bill) []api.Errno {
	var l []api.Errno
	outside := func(n, end int) bool { return n < 0 || n >= end }
	firm := func(n int) bool { return n != api.None && outside(n, len(r.Firms)) }
	none := func(n int) bool { return n == api.None }
	if none(b.Drawer) || none(b.Drawee) || firm(b.Drawer) || firm(b.Drawee) || firm(b.Payee) || firm(b.Need) ||
		outside(b.Currency, len(r.Currencies)) || outside(b.City, len(r.Cities)) || outside(b.Pay, len(r.Cities)) {
		l = append(l, api.ErrArg)
	}
	if outside(b.Sum-1, 1<<40) || outside(b.Day, 100001) || outside(b.Rate, 1001) {
		l = append(l, api.ErrRange)
	}
	if outside(b.Parts-1, 4) {
		l = append(l, api.ErrPart)
	}
	if outside(b.Flags, 8) || b.Flags/4%2 == 1 && none(b.Payee) || !modelTenor(b) {
		l = append(l, api.ErrForm)
	}
	if b.Tenor.Kind == api.TnUsance && !slices.ContainsFunc(r.Usances, func(u api.Usance) bool { return u.From == b.City && u.To == b.Pay }) {
		l = append(l, api.ErrNone)
	}
	return l
}

// modelTenor reports whether the tenor of a bill stands in the chapter's table.
func modelTenor(b api.Bill) bool {
	row := [...]struct{ lo, hi, units int }{{0, 0, 1}, {1, 400, 2}, {1, 400, 2}, {b.Day, 100000, 1}, {0, 0, 1}}
	t := b.Tenor
	if t.Kind < 0 || t.Kind >= len(row) {
		return false
	}
	return t.N >= row[t.Kind].lo && t.N <= row[t.Kind].hi && t.Unit >= 0 && t.Unit < row[t.Kind].units
}

// modelDate returns the date of a day by the library's calendar.
func modelDate(day int) string {
	return time.Date(2000, 1, 1+day, 0, 0, 0, 0, time.UTC).Format("2006-1-2")
}

// modelText returns the wording of a part of a right bill.
func modelText(r api.Realm, b api.Bill, part int) string {
	firms := make(map[int]string)
	for i, f := range r.Firms {
		firms[i] = f.Name
	}
	s := fmt.Sprintf("%s %d of %d\n", [2]string{"paper", "bill"}[b.Flags%2], part+1, b.Parts)
	s += fmt.Sprintf("drawn in %s on %s\n", r.Cities[b.City].Name, modelDate(b.Day))
	period := fmt.Sprintf("%d %s", b.Tenor.N, [2]string{"days", "months"}[b.Tenor.Unit])
	s += "pay " + [...]string{"at sight", period + " after sight", period + " after date", "on " + modelDate(b.Tenor.N), "at usance"}[b.Tenor.Kind] + "\n"
	to := "to bearer\n"
	if name, ok := firms[b.Payee]; ok {
		to = "to " + name + [2]string{" or order\n", " not to order\n"}[b.Flags/4%2]
	}
	s += to + fmt.Sprintf("%d %s", b.Sum, r.Currencies[b.Currency])
	if b.Rate > 0 {
		s += fmt.Sprintf(" with interest at %d per mille", b.Rate)
	}
	s += fmt.Sprintf("\nto be paid by %s in %s\n", firms[b.Drawee], r.Cities[b.Pay].Name)
	between := "unless part "
	for i := 1; i <= b.Parts; i++ {
		if i != part+1 {
			s += between + strconv.Itoa(i)
			between = " or "
		}
	}
	if b.Parts > 1 {
		s += " was paid\n"
	}
	if name, ok := firms[b.Need]; ok {
		s += "in need ask " + name + "\n"
	}
	if b.Flags/2%2 == 1 {
		s += "without protest\n"
	}
	return s + "signed " + firms[b.Drawer] + "\n"
}

// pattern has a group for each number and name of a wording.
var pattern = regexp.MustCompile(`^(?:(bill)|paper) ([1-4]) of ([1-4])\n` +
	`drawn in (\S+) on ([0-9-]+)\n` +
	`pay (?:at (sight|usance)|([1-9][0-9]{0,2}) (days|months) after (sight|date)|on ([0-9-]+))\n` +
	`to (?:bearer|(\S+) (?:or|(not to)) order)\n` +
	`([1-9][0-9]*) (\S+)(?: with interest at ([1-9][0-9]*) per mille)?\n` +
	`to be paid by (\S+) in (\S+)\n` +
	`(?:unless part [1-4 or]+ was paid\n)?` +
	`(?:in need ask (\S+)\n)?` +
	`(?:(without protest)\n)?` +
	`signed (\S+)\n$`)

// modelParse returns the bill and the part whose wording a text is, if the realm is right.
func modelParse(r api.Realm, text string) (b api.Bill, part int, ok bool) {
	m := pattern.FindStringSubmatch(text)
	if m == nil {
		return api.Bill{}, 0, false
	}
	number := func(s string) int {
		n, _ := strconv.Atoi(s)
		return n
	}
	day := func(s string) int {
		at, err := time.Parse("2006-1-2", s)
		if err != nil {
			return -1
		}
		return int(at.Sub(time.Date(2000, 1, 1, 0, 0, 0, 0, time.UTC)).Hours()) / 24
	}
	firm := func(s string) int {
		if s == "" {
			return api.None
		}
		return slices.IndexFunc(r.Firms, func(f api.Firm) bool { return f.Name == s })
	}
	city := func(s string) int {
		return slices.IndexFunc(r.Cities, func(c api.City) bool { return c.Name == s })
	}
	flag := func(s string, flag int) int {
		if s == "" {
			return 0
		}
		return flag
	}
	b = api.Bill{
		Drawer: firm(m[20]), Drawee: firm(m[16]), Payee: firm(m[11]), Sum: number(m[13]), Currency: slices.Index(r.Currencies, m[14]),
		Day: day(m[5]), City: city(m[4]), Pay: city(m[17]), Need: firm(m[18]), Rate: number(m[15]), Parts: number(m[3]),
		Flags: flag(m[1], api.FlWord) | flag(m[19], api.FlNoProtest) | flag(m[12], api.FlNotToOrder),
	}
	switch {
	case m[6] == "usance":
		b.Tenor.Kind = api.TnUsance
	case m[10] != "":
		b.Tenor = api.Tenor{Kind: api.TnFixed, N: day(m[10])}
	case m[6] == "":
		b.Tenor = api.Tenor{Kind: api.TnAfterSight, N: number(m[7]), Unit: flag(m[8][:1], 0)}
		if m[8] == "months" {
			b.Tenor.Unit = api.UnMonths
		}
		if m[9] == "date" {
			b.Tenor.Kind = api.TnAfterDate
		}
	}
	part = number(m[2]) - 1
	if modelCheck(r, b) != nil || part >= b.Parts || modelText(r, b, part) != text {
		return api.Bill{}, 0, false
	}
	return b, part, true
}

// mutant returns a text with a line or a byte or two changed.
func (d dice) mutant(text, other string) string {
	lines := strings.SplitAfter(strings.TrimSuffix(text, "\n"), "\n")
	from := strings.SplitAfter(other, "\n")
	i, j := d.Intn(len(lines)), d.Intn(len(from))
	at, n := d.Intn(len(text)), d.Intn(3)
	switch d.Intn(6) {
	case 0:
		lines[i] = from[min(i, len(from)-1)]
	case 1:
		lines[i] = from[j]
	case 2:
		lines = slices.Delete(lines, i, i+1)
	case 3:
		lines = slices.Insert(lines, i, from[j])
	case 4:
		return text[:at] + strings.Repeat(string("0123456789 -abcrst\n"[d.Intn(19)]), n) + text[at:]
	default:
		return text[:at] + text[min(at+n, len(text)):]
	}
	s := strings.Join(lines, "")
	if strings.HasSuffix(s, "\n") {
		return s
	}
	return s + "\n"
}

// P10.1: Check compared with the first one of all errors of random bills.
func TestCheckModel(t *testing.T) {
	d := newDice()
	counts := make(map[api.Errno]int)
	for range 40000 {
		r := d.realm()
		b := d.bill(r)
		if e := wording.Check(r, b); e != api.OK {
			t.Fatalf("Check(%+v) = %d for a right bill", b, e)
		}
		d.spoil(&b)
		want := append(modelCheck(r, b), api.OK)[0]
		if e := wording.Check(r, b); e != want {
			t.Fatalf("Check(%+v) = %d, want %d", b, e, want)
		}
		counts[want]++
	}
	for _, e := range []api.Errno{api.OK, api.ErrArg, api.ErrRange, api.ErrPart, api.ErrForm, api.ErrNone} {
		if counts[e] < 100 {
			t.Errorf("the error %d was met %d times only", e, counts[e])
		}
	}
}

// P10.1: the errors of a realm come before those of a bill.
func TestCheckRealmModel(t *testing.T) {
	d := newDice()
	for range 5000 {
		r := d.realm()
		b := d.bill(r)
		text := wording.Text(r, b, 0)
		switch d.Intn(5) {
		case 0:
			r.Firms = append(r.Firms, r.Firms[d.Intn(len(r.Firms))])
		case 1:
			r.Currencies[d.Intn(len(r.Currencies))] = "_"
		case 2:
			r.Cities[d.Intn(len(r.Cities))].Order = 2
		case 3:
			r.Groups = make([]api.Group, api.MaxGroups+1)
		case 4:
			r.Halts = append(r.Halts, api.Halt{From: 2, To: 1})
		}
		if d.Intn(2) == 0 {
			d.spoil(&b)
		}
		if got, want := wording.Check(r, b), realm.Check(r); got != want || want == api.OK {
			t.Fatalf("Check = %d, want %d", got, want)
		}
		if got := wording.Text(r, b, 0); got != "" {
			t.Fatalf("Text = %q", got)
		}
		checkRefused(t, r, text)
	}
}

// P10.2, P10.6: Text compared with the definition, and Parse with its inverse.
func TestTextModel(t *testing.T) {
	d := newDice()
	for range 20000 {
		r := d.realm()
		b := d.bill(r)
		part := d.Intn(b.Parts)
		checkReads(t, r, b, part, modelText(r, b, part))
	}
}

// P10.2: a bill that is not right has no wording.
func TestTextSpoiled(t *testing.T) {
	d := newDice()
	for range 20000 {
		r := d.realm()
		b := d.bill(r)
		d.spoil(&b)
		part := d.Intn(7) - 1
		want := ""
		if modelCheck(r, b) == nil && 0 <= part && part < b.Parts {
			want = modelText(r, b, part)
		}
		if got := wording.Text(r, b, part); got != want {
			t.Fatalf("Text(%+v, %d) = %q, want %q", b, part, got, want)
		}
	}
}

// P10.3, P10.4, P10.6: Parse and Alike of texts that are nearly wordings, compared with a regular expression.
func TestParseModel(t *testing.T) {
	d := newDice()
	read, alike := 0, 0
	for range 100000 {
		r := d.realm()
		b := d.bill(r)
		text := modelText(r, b, d.Intn(b.Parts))
		c := d.bill(r)
		other := d.mutant(text, modelText(r, c, d.Intn(c.Parts)))
		want, wantPart, ok := modelParse(r, other)
		got, part, e := wording.Parse(r, other)
		if got != want || part != wantPart || (e == api.OK) != ok || (e != api.OK && e != api.ErrSyntax) {
			t.Fatalf("Parse(%q) = %+v, %d, %d, want %+v, %d, %v", other, got, part, e, want, wantPart, ok)
		}
		if got, want := wording.Alike(r, text, other), ok && want == b; got != want {
			t.Fatalf("Alike(%q, %q) = %v", text, other, got)
		} else if got {
			alike++
		}
		if ok {
			read++
			checkReads(t, r, got, part, other)
		}
	}
	if read < 3000 || alike < 100 {
		t.Errorf("only %d texts were wordings, %d alike", read, alike)
	}
}

// P10.6: all bills of a small realm that differ in up to two fields from a bill have different wordings.
func TestDifferentWordings(t *testing.T) {
	r := fair()
	start := api.Bill{Drawer: 1, Drawee: 1, Payee: 2, Sum: 11, Day: 11, Need: 1, Pay: 1, Rate: 1, Flags: api.FlAll, Parts: 2, Tenor: api.Tenor{Kind: api.TnAfterSight, N: 11, Unit: 1}}
	seen := make(map[string]string)
	note := func(b api.Bill) {
		for part := range b.Parts {
			text := wording.Text(r, b, part)
			if text == "" {
				continue
			}
			key := fmt.Sprintf("%+v %d", b, part)
			if old, ok := seen[text]; ok && old != key {
				t.Fatalf("%s and %s have the wording %q", old, key, text)
			}
			seen[text] = key
		}
	}
	values := []int{-1, 0, 1, 2, 3, 4, 5, 6, 7, 11, 12, 21, 110, 111, 1111}
	b := start
	l := fields(&b)
	for i := range l {
		for j := range l[:i] {
			for _, v := range values {
				for _, w := range values {
					b = start
					*l[i], *l[j] = v, w
					b.Parts = min(b.Parts, api.MaxParts+1)
					note(b)
				}
			}
		}
	}
	if len(seen) < 5000 {
		t.Errorf("only %d wordings", len(seen))
	}
}

// P10.7: the parts of a set are alike, and differ only in their first line, and in the line that names the others.
func TestSets(t *testing.T) {
	d := newDice()
	for range 3000 {
		r := d.realm()
		b := d.bill(r)
		for i := range b.Parts {
			for j := range b.Parts {
				first, second := wording.Text(r, b, i), wording.Text(r, b, j)
				if !wording.Alike(r, first, second) {
					t.Fatalf("%q and %q are not alike", first, second)
				}
				checkDiffer(t, first, second, i != j)
			}
		}
	}
}

// checkDiffer checks in which lines two wordings of a set differ.
func checkDiffer(t *testing.T, first, second string, differ bool) {
	t.Helper()
	a, b := strings.Split(first, "\n"), strings.Split(second, "\n")
	if len(a) != len(b) {
		t.Fatalf("%q and %q have different numbers of lines", first, second)
	}
	for i := range a {
		own := i == 0 || strings.HasPrefix(a[i], "unless part ") && strings.HasPrefix(b[i], "unless part ")
		if (a[i] != b[i]) != (own && differ) {
			t.Fatalf("%q and %q in line %d", first, second, i)
		}
	}
}

// roomy returns a copy of a list with another element beyond its length.
func roomy[T any](l []T) []T {
	var zero T
	return append(append(make([]T, 0, len(l)+1), l...), zero)[:len(l)]
}

// beyond returns the realm with the elements beyond the lengths of its lists.
func beyond(r api.Realm) api.Realm {
	r.Currencies, r.Cities, r.Groups, r.Firms = r.Currencies[:len(r.Currencies)+1], r.Cities[:len(r.Cities)+1], r.Groups[:len(r.Groups)+1], r.Firms[:len(r.Firms)+1]
	r.Orders, r.Usances = r.Orders[:len(r.Orders)+1], r.Usances[:len(r.Usances)+1]
	return r
}

// P10.5, P3: arguments are not modified, and elements beyond the length of a slice play no part.
func TestArguments(t *testing.T) {
	d := newDice()
	for range 2000 {
		r := d.realm()
		r.Currencies, r.Cities, r.Groups, r.Firms, r.Orders, r.Usances = roomy(r.Currencies), roomy(r.Cities), roomy(r.Groups), roomy(r.Firms), roomy(r.Orders), roomy(r.Usances)
		all := beyond(r)
		all.Currencies[len(r.Currencies)] = "ducat"
		all.Cities[len(r.Cities)] = api.City{Name: "Genova", Rest: []int{1}}
		all.Firms[len(r.Firms)] = api.Firm{Name: "Baring"}
		all.Usances[len(r.Usances)] = api.Usance{From: 9, To: 9, Days: 9}
		before := clone(all)
		b := d.bill(r)
		text := wording.Text(r, b, 0)
		wording.Check(r, b)
		wording.Parse(r, text)
		wording.Alike(r, text, text)
		last := strings.LastIndex(text[:len(text)-1], "\n") + 1
		checkRefused(t, r, text[:last]+"signed Baring\n")
		checkRefused(t, r, strings.Replace(text, " in "+r.Cities[b.Pay].Name+"\n", " in Genova\n", 1))
		b.Currency = len(r.Currencies)
		if e := wording.Check(r, b); e != api.ErrArg {
			t.Fatalf("Check = %d for a currency beyond the list", e)
		}
		if !reflect.DeepEqual(all, before) {
			t.Fatalf("the realm was changed: %+v, %+v", all, before)
		}
	}
}

// clone returns a realm that shares no lists with another one.
func clone(r api.Realm) api.Realm {
	r.Currencies, r.Cities, r.Groups, r.Firms = slices.Clone(r.Currencies), slices.Clone(r.Cities), slices.Clone(r.Groups), slices.Clone(r.Firms)
	r.Orders, r.Usances = slices.Clone(r.Orders), slices.Clone(r.Usances)
	for i := range r.Cities {
		r.Cities[i].Rest = slices.Clone(r.Cities[i].Rest)
	}
	return r
}

// P4: calls at the same time have the same results.
func TestAtTheSameTime(t *testing.T) {
	d := newDice()
	r := d.realm()
	b := d.bill(r)
	want := modelText(r, b, 0)
	var group sync.WaitGroup
	for range 8 {
		group.Go(func() {
			for range 200 {
				checkReads(t, r, b, 0, want)
				if !wording.Alike(r, want, want) {
					t.Error("not alike")
				}
			}
		})
	}
	group.Wait()
}
