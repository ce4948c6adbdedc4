package realm_test

import (
	"cmp"
	"math/rand"
	"reflect"
	"slices"
	"strings"
	"sync"
	"testing"

	"allonge/api"
	"allonge/realm"
)

// dice makes realms by chance, always the same ones.
type dice struct{ *rand.Rand }

func newDice() dice {
	return dice{rand.New(rand.NewSource(9))}
}

// some returns ascending numbers that are one of each step numbers, from a first one on.
func (d dice) some(from, step, n int) []int {
	var l []int
	for i := range n {
		l = append(l, from+i*step+d.Intn(step))
	}
	return l
}

// right returns a right realm.
func (d dice) right() api.Realm {
	r := api.Realm{Currencies: names(1 + d.Intn(api.MaxCurrencies))}
	for _, name := range names(1 + d.Intn(5)) {
		r.Orders = append(r.Orders, d.order(name))
	}
	for _, name := range names(1 + d.Intn(8)) {
		r.Cities = append(r.Cities, api.City{
			Name: name, Order: d.Intn(len(r.Orders)), Currency: d.Intn(len(r.Currencies)),
			Rest: d.some(0, 2, d.Intn(4)), Feasts: d.some(101+100*d.Intn(9), 4, d.Intn(8)), Shut: d.some(d.Intn(api.MaxDay-2000), 10, d.Intn(201)),
		})
	}
	for range 1 + d.Intn(4) {
		r.Groups = append(r.Groups, api.Group{Grade: d.Intn(10)})
	}
	for _, name := range names(d.Intn(20)) {
		r.Firms = append(r.Firms, api.Firm{Name: name, City: d.Intn(len(r.Cities)), Group: d.Intn(len(r.Groups))})
	}
	d.lists(&r)
	return r
}

// order returns a right order.
func (d dice) order(name string) api.Order {
	o := api.Order{Name: name, Accepts: d.Intn(2) == 0}
	for _, q := range d.some(0, 4, d.Intn(6)) {
		o.Choices = append(o.Choices, api.Choice{Ask: q, By: d.Intn(api.CfKinds), Whole: d.Intn(2) == 0})
	}
	for _, q := range d.some(0, 3, d.Intn(8)) {
		o.Rules = append(o.Rules, api.Rule{Ask: q, Term: api.Term{Op: d.Intn(99) - 9, Args: make([]api.Term, d.Intn(3))}})
	}
	return o
}

// lists adds usances, rates and halts to a realm.
func (d dice) lists(r *api.Realm) {
	for from := range r.Cities {
		for to := range r.Cities {
			if d.Intn(4) == 0 {
				r.Usances = append(r.Usances, api.Usance{From: from, To: to, Days: 1 + d.Intn(api.MaxDays)})
			}
		}
	}
	d.Shuffle(len(r.Usances), func(i, j int) { r.Usances[i], r.Usances[j] = r.Usances[j], r.Usances[i] })
	for range d.Intn(6) {
		if from, to := d.Intn(len(r.Currencies)), d.Intn(len(r.Currencies)); from != to {
			r.Rates = append(r.Rates, api.Rate{From: from, To: to, Num: 1 + d.Intn(api.MaxRate), Den: 1 + d.Intn(api.MaxRate), Since: d.Intn(api.MaxDay + 1)})
		}
	}
	for range d.Intn(4) {
		from := d.Intn(api.MaxDay + 1)
		r.Halts = append(r.Halts, api.Halt{Order: d.Intn(len(r.Orders)), From: from, To: from + d.Intn(api.MaxDay+1-from)})
	}
}

// wrongName returns what may be the name of another element, or none.
func (d dice) wrongName() string {
	return []string{"n0", "n1", "n2", "", "_", "2nd", "n-1", "n0\x00", "n" + strings.Repeat("9", 19), "n" + strings.Repeat("9", 20)}[d.Intn(10)]
}

// wrongNumber returns a number near one of the bounds.
func (d dice) wrongNumber() int {
	bounds := []int{0, 0, 1, 2, 6, 9, api.CfKinds, api.QuKinds, 100, 1231, api.MaxDays, api.MaxDay, api.MaxRate}
	return bounds[d.Intn(len(bounds))] + d.Intn(3) - 1
}

// spoil changes a number or a name of a realm, or makes a list longer.
func (d dice) spoil(r *api.Realm) {
	var places []reflect.Value
	var walk func(v reflect.Value)
	walk = func(v reflect.Value) {
		switch v.Kind() {
		case reflect.Struct:
			for i := range v.NumField() {
				walk(v.Field(i))
			}
		case reflect.Slice:
			places = append(places, v)
			for i := range v.Len() {
				walk(v.Index(i))
			}
		case reflect.String, reflect.Int:
			places = append(places, v)
		}
	}
	walk(reflect.ValueOf(r).Elem().Field(d.Intn(8)))
	switch v := places[d.Intn(len(places))]; v.Kind() {
	case reflect.String:
		v.SetString(d.wrongName())
	case reflect.Int:
		v.SetInt(int64(d.wrongNumber()))
	case reflect.Slice:
		if n := v.Len(); n > 0 {
			v.Set(reflect.AppendSlice(v, v.Slice(d.Intn(n), n)))
		} else {
			v.Set(reflect.MakeSlice(v.Type(), 1+d.Intn(2), 2))
		}
	}
}

// spoilt returns a realm in which several things may be wrong.
func (d dice) spoilt() api.Realm {
	r := d.right()
	for range d.Intn(5) {
		d.spoil(&r)
	}
	return r
}

// A fault is an error with its place in the sequence in which Check looks at a realm: the list, the element (-1: the list itself), and the rank of the fault among those of the element.
type fault struct {
	list, at, rank int
	err            api.Errno
}

// judge collects all faults of a realm.
type judge struct {
	list   int
	faults []fault
}

func (j *judge) say(ok bool, at, rank int, err api.Errno) {
	if !ok {
		j.faults = append(j.faults, fault{j.list, at, rank, err})
	}
}

// listed opens the next list.
func (j *judge) listed(n, limit int) {
	j.list++
	j.say(n <= limit, -1, 0, api.ErrFull)
}

func (j *judge) names(l []string) {
	const letters = "abcdefghijklmnopqrstuvwxyzABCDEFGHIJKLMNOPQRSTUVWXYZ"
	for i, s := range l {
		ok := s != "" && len(s) <= 20 && strings.Contains(letters, s[:1]) && strings.Trim(s, letters+"0123456789_") == ""
		j.say(ok, i, 0, api.ErrForm)
		j.say(slices.Index(l, s) == i, i, 1, api.ErrTwice)
	}
}

// arg says that something is wrong with the element at.
func (j *judge) arg(ok bool, at int) { j.say(ok, at, 2, api.ErrArg) }

// inside reports whether a number is that of one of n elements.
func inside(i, n int) bool { return i >= 0 && i < n }

// isSet reports whether a list is that of all the different numbers that it contains, ascending, and whether all of them are among others.
func isSet(l, others []int) bool {
	for _, n := range l {
		if !slices.Contains(others, n) {
			return false
		}
	}
	return slices.Equal(l, slices.Compact(slices.Sorted(slices.Values(l))))
}

// judged returns what Check returns, by the definition: the first one of all faults.
func judged(r api.Realm) api.Errno {
	j := &judge{}
	j.listed(len(r.Currencies), 8)
	j.names(r.Currencies)
	j.cities(r)
	j.listed(len(r.Groups), 20)
	for i, g := range r.Groups {
		j.arg(inside(g.Grade, 10), i)
	}
	var list []string
	j.listed(len(r.Firms), 200)
	for i, f := range r.Firms {
		list = append(list, f.Name)
		j.arg(inside(f.City, len(r.Cities)), i)
		j.arg(inside(f.Group, len(r.Groups)), i)
	}
	j.names(list)
	j.orders(r)
	j.rest(r)
	if len(j.faults) == 0 {
		return api.OK
	}
	return slices.MinFunc(j.faults, func(a, b fault) int {
		return cmp.Or(a.list-b.list, a.at-b.at, a.rank-b.rank)
	}).err
}

func (j *judge) cities(r api.Realm) {
	var list []string
	j.listed(len(r.Cities), 40)
	for i, c := range r.Cities {
		list = append(list, c.Name)
		j.arg(inside(c.Order, len(r.Orders)), i)
		j.arg(inside(c.Currency, len(r.Currencies)), i)
		j.arg(isSet(c.Rest, upward(0, 7)), i)
		j.arg(isSet(c.Feasts, feasts(12*31)) && len(c.Feasts) <= 60, i)
		j.arg(isSet(c.Shut, c.Shut) && len(c.Shut) <= 200, i)
		for _, day := range c.Shut {
			j.arg(inside(day, api.MaxDay+1), i)
		}
	}
	j.names(list)
}

func (j *judge) orders(r api.Realm) {
	var list []string
	j.listed(len(r.Orders), 20)
	for i, o := range r.Orders {
		list = append(list, o.Name)
		var chosen, ruled []int
		for _, c := range o.Choices {
			chosen = append(chosen, c.Ask)
			j.arg(inside(c.By, 5), i)
		}
		for _, rule := range o.Rules {
			ruled = append(ruled, rule.Ask)
		}
		j.arg(isSet(chosen, upward(0, 22)), i)
		j.arg(isSet(ruled, upward(0, 22)), i)
	}
	j.names(list)
}

func (j *judge) rest(r api.Realm) {
	j.listed(len(r.Usances), 100)
	for i, u := range r.Usances {
		ok := inside(u.From, len(r.Cities)) && inside(u.To, len(r.Cities)) && inside(u.Days-1, api.MaxDays)
		j.say(ok, i, 0, api.ErrArg)
		for _, b := range r.Usances[:i] {
			j.say(b.From != u.From || b.To != u.To, i, 1, api.ErrTwice)
		}
	}
	j.listed(len(r.Rates), 100)
	for i, x := range r.Rates {
		j.arg(inside(x.From, len(r.Currencies)) && inside(x.To, len(r.Currencies)) && x.From != x.To, i)
		j.arg(inside(x.Num-1, api.MaxRate) && inside(x.Den-1, api.MaxRate) && inside(x.Since, api.MaxDay+1), i)
	}
	j.listed(len(r.Halts), 20)
	for i, h := range r.Halts {
		j.arg(inside(h.Order, len(r.Orders)) && h.From >= 0 && h.From <= h.To && h.To <= api.MaxDay, i)
	}
}

// P9.1: Check is the first one of all faults.
func TestCheckIsTheFirstFault(t *testing.T) {
	d := newDice()
	seen := map[api.Errno]int{}
	for range 6000 {
		r := d.spoilt()
		want := judged(r)
		seen[want]++
		if got := realm.Check(r); got != want {
			t.Fatalf("Check(%+v) = %d, want %d", r, got, want)
		}
	}
	for _, e := range []api.Errno{api.OK, api.ErrFull, api.ErrForm, api.ErrTwice, api.ErrArg} {
		if seen[e] < 50 {
			t.Errorf("the error %d was met %d times only", e, seen[e])
		}
	}
}

// P9.2, P9.3, P9.4: what is looked up is what stands in the lists, in realms that are right and in others.
func TestLookupsOfAnyRealm(t *testing.T) {
	d := newDice()
	for range 1500 {
		r := d.spoilt()
		if len(r.Firms) > 0 {
			d.spoil(&r)
		}
		for n := -2; n < 12; n++ {
			checkNumber(t, r, n)
		}
		for _, name := range append(names(9), d.wrongName(), d.wrongName()) {
			checkName(t, r, name)
		}
	}
}

// checkNumber compares what is looked up by a number.
func checkNumber(t *testing.T, r api.Realm, n int) {
	t.Helper()
	order, grade := api.None, api.None
	for i, c := range r.Cities {
		if i == n {
			order = c.Order
		}
	}
	var members []int
	for i, f := range r.Firms {
		if f.Group == n {
			members = append(members, i)
		}
		if i == n && inside(f.Group, len(r.Groups)) {
			grade = r.Groups[f.Group].Grade
		}
	}
	if a, b := realm.OrderAt(r, n), realm.Grade(r, n); a != order || b != grade {
		t.Fatalf("OrderAt(%d), Grade = %d, %d, want %d, %d in %+v", n, a, b, order, grade, r)
	}
	if l := realm.Members(r, n); !slices.Equal(l, members) {
		t.Fatalf("Members(%d) = %v, want %v in %+v", n, l, members, r)
	}
	for to := -1; to < 9; to++ {
		days, err := 0, api.ErrNone
		for i := len(r.Usances) - 1; i >= 0; i-- {
			if u := r.Usances[i]; u.From == n && u.To == to {
				days, err = u.Days, api.OK
			}
		}
		if a, e := realm.Usance(r, n, to); a != days || e != err {
			t.Fatalf("Usance(%d, %d) = %d, %d, want %d, %d in %+v", n, to, a, e, days, err, r)
		}
	}
}

// checkName compares what is looked up by a name.
func checkName(t *testing.T, r api.Realm, name string) {
	t.Helper()
	city, firm := api.None, api.None
	for i := len(r.Cities) - 1; i >= 0; i-- {
		if r.Cities[i].Name == name {
			city = i
		}
	}
	for i := len(r.Firms) - 1; i >= 0; i-- {
		if r.Firms[i].Name == name {
			firm = i
		}
	}
	if a, b := realm.City(r, name), realm.Firm(r, name); a != city || b != firm {
		t.Fatalf("City(%q), Firm = %d, %d, want %d, %d in %+v", name, a, b, city, firm, r)
	}
}

// eachRight calls a function with right realms.
func eachRight(t *testing.T, f func(d dice, r api.Realm)) {
	t.Helper()
	d := newDice()
	for range 400 {
		r := d.right()
		if e := realm.Check(r); e != api.OK {
			t.Fatalf("Check = %d of %+v", e, r)
		}
		f(d, r)
	}
	f(d, fullRealm())
	f(d, filled())
}

// P9.5: in a right realm each city and each firm is found by its name, each city has an order, and each firm a grade.
func TestAllIsFound(t *testing.T) {
	eachRight(t, func(_ dice, r api.Realm) {
		for i, c := range r.Cities {
			if got := realm.City(r, c.Name); got != i {
				t.Errorf("City(%q) = %d, want %d", c.Name, got, i)
			}
			if o := realm.OrderAt(r, i); o != c.Order || !inside(o, len(r.Orders)) {
				t.Errorf("OrderAt(%d) = %d", i, o)
			}
		}
		for i, f := range r.Firms {
			if got := realm.Firm(r, f.Name); got != i {
				t.Errorf("Firm(%q) = %d, want %d", f.Name, got, i)
			}
			if g := realm.Grade(r, i); g != r.Groups[f.Group].Grade || !inside(g, 10) {
				t.Errorf("Grade(%d) = %d", i, g)
			}
		}
	})
}

// P9.6: each firm of a right realm is a member of its group, and of no other one.
func TestMembersShareTheFirms(t *testing.T) {
	eachRight(t, func(_ dice, r api.Realm) {
		groups := map[int][]int{}
		for g := -1; g <= len(r.Groups); g++ {
			l := realm.Members(r, g)
			if !isSet(l, upward(0, len(r.Firms))) {
				t.Fatalf("Members(%d) = %v", g, l)
			}
			for _, f := range l {
				groups[f] = append(groups[f], g)
			}
		}
		for i, f := range r.Firms {
			if !slices.Equal(groups[i], []int{f.Group}) {
				t.Errorf("the firm %d of the group %d is a member of %v", i, f.Group, groups[i])
			}
		}
	})
}

// P9.7: the sequence of the usances does not matter.
func TestUsancesInAnySequence(t *testing.T) {
	eachRight(t, func(d dice, r api.Realm) {
		other := r
		other.Usances = slices.Clone(r.Usances)
		d.Shuffle(len(other.Usances), func(i, j int) {
			other.Usances[i], other.Usances[j] = other.Usances[j], other.Usances[i]
		})
		if e := realm.Check(other); e != api.OK {
			t.Fatalf("Check = %d", e)
		}
		for from := range r.Cities {
			for to := range r.Cities {
				a, e := realm.Usance(r, from, to)
				b, f := realm.Usance(other, from, to)
				if a != b || e != f {
					t.Errorf("Usance(%d, %d) = %d, %d, and %d, %d in another sequence", from, to, a, e, b, f)
				}
			}
		}
	})
}

// P9.8: a right realm without its last firm is right.
func TestWithoutTheLastFirm(t *testing.T) {
	eachRight(t, func(_ dice, r api.Realm) {
		for len(r.Firms) > 0 {
			r.Firms = r.Firms[:len(r.Firms)-1]
			if e := realm.Check(r); e != api.OK {
				t.Fatalf("Check = %d with %d firms", e, len(r.Firms))
			}
		}
	})
}

// padded returns a realm whose lists are followed, beyond their length, by elements that are wrong and would be found.
func padded(r api.Realm) api.Realm {
	r.Currencies = append(slices.Clip(r.Currencies), "", "n0")[:len(r.Currencies)]
	r.Cities = append(slices.Clip(r.Cities), api.City{Name: "beyond", Order: 77})[:len(r.Cities)]
	r.Groups = append(slices.Clip(r.Groups), api.Group{Grade: 77})[:len(r.Groups)]
	r.Firms = append(slices.Clip(r.Firms), api.Firm{Name: "beyond", Group: 0})[:len(r.Firms)]
	r.Orders = append(slices.Clip(r.Orders), api.Order{})[:len(r.Orders)]
	r.Usances = append(slices.Clip(r.Usances), api.Usance{From: 39, To: 38, Days: 77})[:len(r.Usances)]
	r.Rates = append(slices.Clip(r.Rates), api.Rate{})[:len(r.Rates)]
	r.Halts = append(slices.Clip(r.Halts), api.Halt{From: -1})[:len(r.Halts)]
	return r
}

// copied returns a realm that shares no memory with another one.
func copied(r api.Realm) api.Realm {
	r.Currencies = slices.Clone(r.Currencies)
	r.Cities = slices.Clone(r.Cities)
	for i, c := range r.Cities {
		r.Cities[i].Rest, r.Cities[i].Feasts, r.Cities[i].Shut = slices.Clone(c.Rest), slices.Clone(c.Feasts), slices.Clone(c.Shut)
	}
	r.Groups, r.Firms = slices.Clone(r.Groups), slices.Clone(r.Firms)
	r.Orders = slices.Clone(r.Orders)
	for i, o := range r.Orders {
		r.Orders[i].Choices, r.Orders[i].Rules = slices.Clone(o.Choices), slices.Clone(o.Rules)
	}
	r.Usances, r.Rates, r.Halts = slices.Clone(r.Usances), slices.Clone(r.Rates), slices.Clone(r.Halts)
	return r
}

// P9.4: no call changes a realm, or looks at what lies beyond the length of a list, and two calls have the same result.
func TestPure(t *testing.T) {
	eachRight(t, func(d dice, r api.Realm) {
		beyond := padded(r)
		if n := len(beyond.Firms); beyond.Firms[:n+1][n].Name != "beyond" {
			t.Fatal("there is nothing beyond the firms")
		}
		before := copied(beyond)
		for range 2 {
			a := realm.Check(beyond)
			b, c := realm.OrderAt(beyond, len(r.Cities)), realm.Grade(beyond, len(r.Firms))
			f, g := realm.City(beyond, "beyond"), realm.Firm(beyond, "beyond")
			_, h := realm.Usance(beyond, 39, 38)
			if a != api.OK || b != api.None || c != api.None || f != api.None || g != api.None || h != api.ErrNone {
				t.Fatalf("beyond the lists: %d, %d, %d, %d, %d, %d", a, b, c, f, g, h)
			}
			for group := range r.Groups {
				l := realm.Members(beyond, group)
				if !slices.Equal(l, realm.Members(r, group)) {
					t.Fatalf("Members(%d) = %v", group, l)
				}
				for i := range l {
					l[i] = -9
				}
			}
		}
		if !reflect.DeepEqual(beyond, before) {
			t.Fatalf("the realm is now %+v, and was %+v", beyond, before)
		}
		n := len(beyond.Firms)
		if beyond.Firms[:n+1][n] != (api.Firm{Name: "beyond"}) {
			t.Fatal("the firm beyond was changed")
		}
	})
}

// P9.4: calls at the same time do not disturb each other.
func TestAtTheSameTime(t *testing.T) {
	r := filled()
	var all sync.WaitGroup
	for range 4 {
		all.Go(func() {
			for group := range r.Groups {
				l := realm.Members(r, group)
				for i := range l {
					if l[i]%api.MaxGroups != group {
						t.Errorf("the firm %d is a member of %d", l[i], group)
					}
					l[i] = -1
				}
			}
			if e := realm.Check(r); e != api.OK {
				t.Errorf("Check = %d", e)
			}
		})
	}
	all.Wait()
}
