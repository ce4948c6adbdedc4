package realm_test

import (
	"math"
	"slices"
	"strconv"
	"strings"
	"testing"

	"allonge/api"
	"allonge/realm"
)

// Numbers that are no index of any list here.
var noIndices = []int{-1, -2, -300, 300, 1 << 32, 1 << 62, math.MinInt, math.MinInt + 1, math.MaxInt - 1, math.MaxInt}

// chapterRealm returns the realm of the chapter's examples.
func chapterRealm() api.Realm {
	return api.Realm{
		Currencies: []string{"franc"},
		Cities:     []api.City{{Name: "Lyon"}, {Name: "London", Order: 1}},
		Groups:     []api.Group{{Grade: 3}},
		Firms:      []api.Firm{{Name: "Bodmer"}, {Name: "Hope", City: 1}},
		Orders:     []api.Order{{Name: "geneva"}, {Name: "london"}},
		Usances:    []api.Usance{{From: 0, To: 1, Days: 60}},
	}
}

// fullRealm returns a right realm with two or three elements in each list.
func fullRealm() api.Realm {
	return api.Realm{
		Currencies: []string{"franc", "pound", "ducat"},
		Cities: []api.City{
			{Name: "Lyon", Order: 1, Currency: 0, Rest: []int{5, 6}, Feasts: []int{101, 1225}, Shut: []int{7, 9}},
			{Name: "London", Order: 0, Currency: 1, Rest: []int{6}},
			{Name: "Genova", Order: 1, Currency: 2, Feasts: []int{624}},
		},
		Groups: []api.Group{{Grade: 3}, {Grade: 0}, {Grade: 9}},
		Firms: []api.Firm{
			{Name: "Bodmer", City: 0, Group: 1},
			{Name: "Hope", City: 1, Group: 2},
			{Name: "Baring", City: 1, Group: 1},
		},
		Orders: []api.Order{
			{Name: "geneva", Choices: []api.Choice{{Ask: 0, By: api.CfSign}, {Ask: 4, By: api.CfPay, Whole: true}}, Rules: []api.Rule{{Ask: 2}, {Ask: 3}}},
			{Name: "london", Accepts: true, Rules: []api.Rule{{Ask: 0, Term: api.Term{Op: -1}}}},
		},
		Usances: []api.Usance{{From: 0, To: 1, Days: 60}, {From: 1, To: 0, Days: 30}, {From: 0, To: 2, Days: 15}},
		Rates:   []api.Rate{{From: 0, To: 1, Num: 1, Den: 25, Since: 0}, {From: 1, To: 0, Num: 24, Den: 1, Since: 9}},
		Halts:   []api.Halt{{Order: 1, From: 10, To: 20}, {Order: 0, From: 5, To: 5}},
	}
}

// A bend is a realm that was changed in one place or more, and what Check says of it.
type bend struct {
	name string
	bend func(r *api.Realm)
	want api.Errno
}

func checkBends(t *testing.T, l []bend) {
	t.Helper()
	for _, c := range l {
		r := fullRealm()
		c.bend(&r)
		if got := realm.Check(r); got != c.want {
			t.Errorf("%s: Check = %d, want %d", c.name, got, c.want)
		}
	}
}

// names returns n different names.
func names(n int) []string {
	var l []string
	for i := range n {
		l = append(l, "n"+strconv.Itoa(i))
	}
	return l
}

// upward returns the n numbers from a first one on.
func upward(from, n int) []int {
	var l []int
	for i := range n {
		l = append(l, from+i)
	}
	return l
}

// feasts returns the first n numbers month * 100 + day.
func feasts(n int) []int {
	var l []int
	for i := range n {
		l = append(l, (i/31+1)*100+i%31+1)
	}
	return l
}

func TestChapterExamples(t *testing.T) {
	r := chapterRealm()
	if e := realm.Check(r); e != api.OK {
		t.Errorf("Check = %d", e)
	}
	for _, c := range []bend{
		{"renamed to Bodmer", func(r *api.Realm) { r.Firms[1].Name = "Bodmer" }, api.ErrTwice},
		{"renamed to 2nd", func(r *api.Realm) { r.Firms[1].Name = "2nd" }, api.ErrForm},
		{"weekdays 6, 5", func(r *api.Realm) { r.Cities[0].Rest = []int{6, 5} }, api.ErrArg},
	} {
		bent := chapterRealm()
		c.bend(&bent)
		if e := realm.Check(bent); e != c.want {
			t.Errorf("%s: Check = %d, want %d", c.name, e, c.want)
		}
	}
	if a, b := realm.OrderAt(r, 1), realm.OrderAt(r, 2); a != 1 || b != api.None {
		t.Errorf("OrderAt = %d, %d", a, b)
	}
	if d, e := realm.Usance(r, 0, 1); d != 60 || e != api.OK {
		t.Errorf("Usance from 0 to 1 = %d, %d", d, e)
	}
	if d, e := realm.Usance(r, 1, 0); d != 0 || e != api.ErrNone {
		t.Errorf("Usance from 1 to 0 = %d, %d", d, e)
	}
	if l := realm.Members(r, 0); !slices.Equal(l, []int{0, 1}) {
		t.Errorf("Members = %v", l)
	}
	if g := realm.Grade(r, 1); g != 3 {
		t.Errorf("Grade = %d", g)
	}
	if f, c := realm.Firm(r, "Hope"), realm.City(r, "Hope"); f != 1 || c != api.None {
		t.Errorf("Hope is the firm %d and the city %d", f, c)
	}
}

// P9.1: right realms, among them the empty one, and those whose lists have no elements.
func TestRightRealms(t *testing.T) {
	for i, r := range []api.Realm{{}, chapterRealm(), fullRealm(), {Currencies: []string{}, Halts: []api.Halt{}}, {Currencies: []string{"a"}}, {Orders: []api.Order{{Name: "x"}}, Halts: []api.Halt{{}, {}}}} {
		if e := realm.Check(r); e != api.OK {
			t.Errorf("the realm %d: Check = %d", i, e)
		}
	}
}

// nameSetters returns for each list with names a function that names its second element.
func nameSetters() map[string]func(r *api.Realm, name string) {
	return map[string]func(r *api.Realm, name string){
		"currency": func(r *api.Realm, name string) { r.Currencies[1] = name },
		"city":     func(r *api.Realm, name string) { r.Cities[1].Name = name },
		"firm":     func(r *api.Realm, name string) { r.Firms[1].Name = name },
		"order":    func(r *api.Realm, name string) { r.Orders[1].Name = name },
	}
}

// P9.1: a name has 1 to 20 bytes, a letter and then letters, digits and _.
func TestNames(t *testing.T) {
	right := []string{"a", "z", "A", "Z", "q0", "q9", "M_", "a_b", "a__", "Aa09_zZ", "a1234567890123456789", strings.Repeat("z", 20)}
	wrong := []string{"", "_", "_a", "0", "9a", "2nd", " a", "a ", "a b", "a-b", "a.b", "a\n", "a\x00", "\x00", "é", "aé", "a\xff", "\x80", "\u017f", "a\u017f", "a\u212a", "a\"", "a@", "a[", "a`", "a{", "a/", "a:", "@", "[", "`", "{", strings.Repeat("z", 21), strings.Repeat("a", 400)}
	for list, set := range nameSetters() {
		for _, name := range right {
			r := fullRealm()
			set(&r, name)
			if e := realm.Check(r); e != api.OK {
				t.Errorf("the %s %q: Check = %d", list, name, e)
			}
		}
		for _, name := range wrong {
			r := fullRealm()
			set(&r, name)
			if e := realm.Check(r); e != api.ErrForm {
				t.Errorf("the %s %q: Check = %d, want ErrForm", list, name, e)
			}
		}
	}
}

// P9.1: a name is letter by letter what it is: names that differ in the case of a letter only are different.
func TestNamesBytewise(t *testing.T) {
	checkBends(t, []bend{
		{"currencies", func(r *api.Realm) { r.Currencies[1] = "Franc" }, api.OK},
		{"cities", func(r *api.Realm) { r.Cities[1].Name = "lyon" }, api.OK},
		{"firms", func(r *api.Realm) { r.Firms[1].Name = "Bodmer_" }, api.OK},
		{"orders", func(r *api.Realm) { r.Orders[1].Name = "genevA" }, api.OK},
		{"one name in several lists", func(r *api.Realm) {
			r.Currencies[0], r.Cities[0].Name, r.Firms[0].Name, r.Orders[0].Name = "x", "x", "x", "x"
		}, api.OK},
	})
}

// P9.1: ErrTwice for a name that an element before has.
func TestTwice(t *testing.T) {
	checkBends(t, []bend{
		{"currency 1", func(r *api.Realm) { r.Currencies[1] = "franc" }, api.ErrTwice},
		{"currency 2 as 0", func(r *api.Realm) { r.Currencies[2] = "franc" }, api.ErrTwice},
		{"currency 2 as 1", func(r *api.Realm) { r.Currencies[2] = "pound" }, api.ErrTwice},
		{"city 2", func(r *api.Realm) { r.Cities[2].Name = "Lyon" }, api.ErrTwice},
		{"firm 2", func(r *api.Realm) { r.Firms[2].Name = "Bodmer" }, api.ErrTwice},
		{"firm 1", func(r *api.Realm) { r.Firms[1].Name = "Baring" }, api.ErrTwice},
		{"order 1", func(r *api.Realm) { r.Orders[1].Name = "geneva" }, api.ErrTwice},
		{"usance 1", func(r *api.Realm) { r.Usances[1] = api.Usance{From: 0, To: 1, Days: 59} }, api.ErrTwice},
		{"usance 2", func(r *api.Realm) { r.Usances[2] = r.Usances[0] }, api.ErrTwice},
		{"equal groups", func(r *api.Realm) { r.Groups[1] = r.Groups[0] }, api.OK},
		{"equal rates", func(r *api.Realm) { r.Rates[1] = r.Rates[0] }, api.OK},
		{"equal halts", func(r *api.Realm) { r.Halts[1] = r.Halts[0] }, api.OK},
	})
}

// P9.1: the lists Order, Currency, Rest, Feasts and Shut of a city.
func TestCities(t *testing.T) {
	checkBends(t, []bend{
		{"order 0", func(r *api.Realm) { r.Cities[1].Order = 0 }, api.OK},
		{"order 1", func(r *api.Realm) { r.Cities[1].Order = 1 }, api.OK},
		{"order 2", func(r *api.Realm) { r.Cities[1].Order = 2 }, api.ErrArg},
		{"order -1", func(r *api.Realm) { r.Cities[1].Order = -1 }, api.ErrArg},
		{"order MinInt", func(r *api.Realm) { r.Cities[1].Order = math.MinInt }, api.ErrArg},
		{"currency 2", func(r *api.Realm) { r.Cities[1].Currency = 2 }, api.OK},
		{"currency 3", func(r *api.Realm) { r.Cities[1].Currency = 3 }, api.ErrArg},
		{"currency -1", func(r *api.Realm) { r.Cities[1].Currency = -1 }, api.ErrArg},
		{"currency MaxInt", func(r *api.Realm) { r.Cities[1].Currency = math.MaxInt }, api.ErrArg},
		{"all weekdays", func(r *api.Realm) { r.Cities[0].Rest = upward(0, 7) }, api.OK},
		{"the weekday 7", func(r *api.Realm) { r.Cities[0].Rest = []int{7} }, api.ErrArg},
		{"the weekday -1", func(r *api.Realm) { r.Cities[0].Rest = []int{-1} }, api.ErrArg},
		{"weekdays 0 to 7", func(r *api.Realm) { r.Cities[0].Rest = upward(0, 8) }, api.ErrArg},
		{"a weekday twice", func(r *api.Realm) { r.Cities[0].Rest = []int{4, 4} }, api.ErrArg},
		{"weekdays that fall", func(r *api.Realm) { r.Cities[0].Rest = []int{1, 3, 2} }, api.ErrArg},
		{"no weekdays", func(r *api.Realm) { r.Cities[0].Rest = []int{} }, api.OK},
		{"the first and the last feast", func(r *api.Realm) { r.Cities[1].Feasts = []int{101, 1231} }, api.OK},
		{"30 February", func(r *api.Realm) { r.Cities[1].Feasts = []int{230, 231, 431} }, api.OK},
		{"the month 0", func(r *api.Realm) { r.Cities[1].Feasts = []int{31} }, api.ErrArg},
		{"the month 13", func(r *api.Realm) { r.Cities[1].Feasts = []int{1301} }, api.ErrArg},
		{"the day 0", func(r *api.Realm) { r.Cities[1].Feasts = []int{200} }, api.ErrArg},
		{"the day 32", func(r *api.Realm) { r.Cities[1].Feasts = []int{132} }, api.ErrArg},
		{"the day 99", func(r *api.Realm) { r.Cities[1].Feasts = []int{199} }, api.ErrArg},
		{"a negative feast", func(r *api.Realm) { r.Cities[1].Feasts = []int{-101} }, api.ErrArg},
		{"the least feast", func(r *api.Realm) { r.Cities[1].Feasts = []int{math.MinInt} }, api.ErrArg},
		{"the greatest feast", func(r *api.Realm) { r.Cities[1].Feasts = []int{math.MaxInt} }, api.ErrArg},
		{"a feast twice", func(r *api.Realm) { r.Cities[1].Feasts = []int{101, 624, 624} }, api.ErrArg},
		{"feasts that fall", func(r *api.Realm) { r.Cities[1].Feasts = []int{624, 101} }, api.ErrArg},
		{"60 feasts", func(r *api.Realm) { r.Cities[1].Feasts = feasts(60) }, api.OK},
		{"61 feasts", func(r *api.Realm) { r.Cities[1].Feasts = feasts(61) }, api.ErrArg},
		{"the first and the last day", func(r *api.Realm) { r.Cities[1].Shut = []int{0, api.MaxDay} }, api.OK},
		{"the day MaxDay + 1", func(r *api.Realm) { r.Cities[1].Shut = []int{api.MaxDay + 1} }, api.ErrArg},
		{"the day -1", func(r *api.Realm) { r.Cities[1].Shut = []int{-1, 5} }, api.ErrArg},
		{"a day twice", func(r *api.Realm) { r.Cities[1].Shut = []int{5, 5} }, api.ErrArg},
		{"days that fall", func(r *api.Realm) { r.Cities[1].Shut = []int{9, 7} }, api.ErrArg},
		{"200 days", func(r *api.Realm) { r.Cities[1].Shut = upward(100, 200) }, api.OK},
		{"201 days", func(r *api.Realm) { r.Cities[1].Shut = upward(100, 201) }, api.ErrArg},
		{"a fault in the last city", func(r *api.Realm) { r.Cities[2].Feasts = []int{0} }, api.ErrArg},
		{"no orders", func(r *api.Realm) { r.Orders, r.Halts = nil, nil }, api.ErrArg},
	})
}

// P9.1: Groups and Firms.
func TestGroupsAndFirms(t *testing.T) {
	checkBends(t, []bend{
		{"the grade 0", func(r *api.Realm) { r.Groups[2].Grade = 0 }, api.OK},
		{"the grade 9", func(r *api.Realm) { r.Groups[0].Grade = 9 }, api.OK},
		{"the grade 10", func(r *api.Realm) { r.Groups[2].Grade = 10 }, api.ErrArg},
		{"the grade -1", func(r *api.Realm) { r.Groups[1].Grade = -1 }, api.ErrArg},
		{"the city 2", func(r *api.Realm) { r.Firms[2].City = 2 }, api.OK},
		{"the city 3", func(r *api.Realm) { r.Firms[2].City = 3 }, api.ErrArg},
		{"no city", func(r *api.Realm) { r.Firms[0].City = api.None }, api.ErrArg},
		{"the group 0", func(r *api.Realm) { r.Firms[2].Group = 0 }, api.OK},
		{"the group 3", func(r *api.Realm) { r.Firms[0].Group = 3 }, api.ErrArg},
		{"no group", func(r *api.Realm) { r.Firms[1].Group = api.None }, api.ErrArg},
		{"no groups", func(r *api.Realm) { r.Groups = nil }, api.ErrArg},
		{"no firms", func(r *api.Realm) { r.Firms = nil }, api.OK},
	})
}

// P9.1: Orders. Terms are not looked at.
func TestOrders(t *testing.T) {
	var choices []api.Choice
	var rules []api.Rule
	for q := range api.QuKinds {
		choices = append(choices, api.Choice{Ask: q, By: q % api.CfKinds})
		rules = append(rules, api.Rule{Ask: q, Term: api.Term{Op: q - 3, Args: make([]api.Term, q)}})
	}
	last := len(choices) - 1
	checkBends(t, []bend{
		{"all questions", func(r *api.Realm) { r.Orders[1].Choices, r.Orders[1].Rules = choices, rules }, api.OK},
		{"a choice more", func(r *api.Realm) { r.Orders[1].Choices = append(choices[:last:last], choices[last], choices[last]) }, api.ErrArg},
		{"a rule more", func(r *api.Realm) { r.Orders[1].Rules = append(rules[:last:last], rules[last], rules[last]) }, api.ErrArg},
		{"the choice QuKinds", func(r *api.Realm) { r.Orders[0].Choices[1].Ask = api.QuKinds }, api.ErrArg},
		{"the choice -1", func(r *api.Realm) { r.Orders[0].Choices[0].Ask = -1 }, api.ErrArg},
		{"a choice twice", func(r *api.Realm) { r.Orders[0].Choices[1].Ask = 0 }, api.ErrArg},
		{"choices that fall", func(r *api.Realm) { r.Orders[0].Choices[0].Ask = 5 }, api.ErrArg},
		{"the rule QuKinds", func(r *api.Realm) { r.Orders[0].Rules[1].Ask = api.QuKinds }, api.ErrArg},
		{"the rule -1", func(r *api.Realm) { r.Orders[0].Rules[0].Ask = -1 }, api.ErrArg},
		{"a rule twice", func(r *api.Realm) { r.Orders[0].Rules[1].Ask = 2 }, api.ErrArg},
		{"rules that fall", func(r *api.Realm) { r.Orders[0].Rules[0].Ask = 4 }, api.ErrArg},
		{"the last factor", func(r *api.Realm) { r.Orders[0].Choices[1].By = api.CfKinds - 1 }, api.OK},
		{"the factor CfKinds", func(r *api.Realm) { r.Orders[0].Choices[1].By = api.CfKinds }, api.ErrArg},
		{"the factor -1", func(r *api.Realm) { r.Orders[0].Choices[0].By = -1 }, api.ErrArg},
		{"neither choices nor rules", func(r *api.Realm) { r.Orders[0].Choices, r.Orders[0].Rules = nil, nil }, api.OK},
		{"a fault in the last order", func(r *api.Realm) { r.Orders[1].Rules = []api.Rule{{Ask: 99}} }, api.ErrArg},
	})
}

// P9.1: Usances, Rates and Halts.
func TestUsancesRatesAndHalts(t *testing.T) {
	checkBends(t, []bend{
		{"1 day", func(r *api.Realm) { r.Usances[1].Days = 1 }, api.OK},
		{"MaxDays", func(r *api.Realm) { r.Usances[1].Days = api.MaxDays }, api.OK},
		{"0 days", func(r *api.Realm) { r.Usances[1].Days = 0 }, api.ErrArg},
		{"MaxDays + 1", func(r *api.Realm) { r.Usances[1].Days = api.MaxDays + 1 }, api.ErrArg},
		{"from the city 3", func(r *api.Realm) { r.Usances[1].From = 3 }, api.ErrArg},
		{"from no city", func(r *api.Realm) { r.Usances[1].From = -1 }, api.ErrArg},
		{"to the city 3", func(r *api.Realm) { r.Usances[1].To = 3 }, api.ErrArg},
		{"to no city", func(r *api.Realm) { r.Usances[1].To = -1 }, api.ErrArg},
		{"to the same city", func(r *api.Realm) { r.Usances[1].To = 1 }, api.OK},

		{"to the same currency", func(r *api.Realm) { r.Rates[0].To = 0 }, api.ErrArg},
		{"from the currency 3", func(r *api.Realm) { r.Rates[0].From = 3 }, api.ErrArg},
		{"from no currency", func(r *api.Realm) { r.Rates[0].From = -1 }, api.ErrArg},
		{"to the currency 2", func(r *api.Realm) { r.Rates[0].To = 2 }, api.OK},
		{"to the currency 3", func(r *api.Realm) { r.Rates[0].To = 3 }, api.ErrArg},
		{"to no currency", func(r *api.Realm) { r.Rates[0].To = -1 }, api.ErrArg},
		{"from and to no currency", func(r *api.Realm) { r.Rates[0].From, r.Rates[0].To = 7, 8 }, api.ErrArg},
		{"Num 0", func(r *api.Realm) { r.Rates[1].Num = 0 }, api.ErrArg},
		{"Num MaxRate", func(r *api.Realm) { r.Rates[1].Num = api.MaxRate }, api.OK},
		{"Num MaxRate + 1", func(r *api.Realm) { r.Rates[1].Num = api.MaxRate + 1 }, api.ErrArg},
		{"Den 0", func(r *api.Realm) { r.Rates[1].Den = 0 }, api.ErrArg},
		{"Den MaxRate", func(r *api.Realm) { r.Rates[1].Den = api.MaxRate }, api.OK},
		{"Den MaxRate + 1", func(r *api.Realm) { r.Rates[1].Den = api.MaxRate + 1 }, api.ErrArg},
		{"not in lowest terms", func(r *api.Realm) { r.Rates[1].Num, r.Rates[1].Den = 6, 4 }, api.OK},
		{"since -1", func(r *api.Realm) { r.Rates[1].Since = -1 }, api.ErrArg},
		{"since MaxDay", func(r *api.Realm) { r.Rates[1].Since = api.MaxDay }, api.OK},
		{"since MaxDay + 1", func(r *api.Realm) { r.Rates[1].Since = api.MaxDay + 1 }, api.ErrArg},

		{"the order 2", func(r *api.Realm) { r.Halts[0].Order = 2 }, api.ErrArg},
		{"the order -1", func(r *api.Realm) { r.Halts[0].Order = -1 }, api.ErrArg},
		{"from 0 to MaxDay", func(r *api.Realm) { r.Halts[1].From, r.Halts[1].To = 0, api.MaxDay }, api.OK},
		{"from -1", func(r *api.Realm) { r.Halts[1].From = -1 }, api.ErrArg},
		{"to MaxDay + 1", func(r *api.Realm) { r.Halts[1].To = api.MaxDay + 1 }, api.ErrArg},
		{"to a day before", func(r *api.Realm) { r.Halts[0].To = 9 }, api.ErrArg},
		{"after MaxDay", func(r *api.Realm) { r.Halts[1].From, r.Halts[1].To = api.MaxDay+1, api.MaxDay+1 }, api.ErrArg},
		{"the last day", func(r *api.Realm) { r.Halts[1].From, r.Halts[1].To = api.MaxDay, api.MaxDay }, api.OK},
	})
}

// filled returns a right realm whose lists are as long as they may be.
func filled() api.Realm {
	r := api.Realm{
		Currencies: names(api.MaxCurrencies),
		Cities:     make([]api.City, api.MaxCities),
		Groups:     make([]api.Group, api.MaxGroups),
		Firms:      make([]api.Firm, api.MaxFirms),
		Orders:     make([]api.Order, api.MaxOrders),
		Halts:      make([]api.Halt, api.MaxHalts),
	}
	list := names(api.MaxFirms)
	for i := range r.Cities {
		r.Cities[i] = api.City{Name: list[i], Order: i % api.MaxOrders, Currency: i % api.MaxCurrencies}
	}
	for i := range r.Firms {
		r.Firms[i] = api.Firm{Name: list[i], City: i % api.MaxCities, Group: i % api.MaxGroups}
	}
	for i := range r.Orders {
		r.Orders[i].Name = list[i]
	}
	for i := range api.MaxUsances {
		r.Usances = append(r.Usances, api.Usance{From: i % 40, To: i / 40, Days: i + 1})
	}
	for range api.MaxRates {
		r.Rates = append(r.Rates, api.Rate{From: 1, To: 0, Num: 1, Den: 1})
	}
	return r
}

// P9.1: each list may be as long as its limit, and ErrFull comes before whatever is wrong with an element.
func TestFull(t *testing.T) {
	if e := realm.Check(filled()); e != api.OK {
		t.Errorf("full lists: Check = %d", e)
	}
	for _, c := range []bend{
		{"currencies", func(r *api.Realm) { r.Currencies = append(r.Currencies, "new") }, api.ErrFull},
		{"cities", func(r *api.Realm) { r.Cities = append(r.Cities, api.City{Name: "new"}) }, api.ErrFull},
		{"groups", func(r *api.Realm) { r.Groups = append(r.Groups, api.Group{}) }, api.ErrFull},
		{"firms", func(r *api.Realm) { r.Firms = append(r.Firms, api.Firm{Name: "new"}) }, api.ErrFull},
		{"orders", func(r *api.Realm) { r.Orders = append(r.Orders, api.Order{Name: "new"}) }, api.ErrFull},
		{"usances", func(r *api.Realm) { r.Usances = append(r.Usances, api.Usance{From: 39, To: 39, Days: 1}) }, api.ErrFull},
		{"rates", func(r *api.Realm) { r.Rates = append(r.Rates, r.Rates[0]) }, api.ErrFull},
		{"halts", func(r *api.Realm) { r.Halts = append(r.Halts, r.Halts[0]) }, api.ErrFull},
		{"currencies without names", func(r *api.Realm) { r.Currencies = make([]string, 9) }, api.ErrFull},
		{"cities without names", func(r *api.Realm) { r.Cities = make([]api.City, 41) }, api.ErrFull},
		{"groups with wrong grades", func(r *api.Realm) { r.Groups = slices.Repeat([]api.Group{{Grade: 10}}, 21) }, api.ErrFull},
		{"firms without names", func(r *api.Realm) { r.Firms = make([]api.Firm, 201) }, api.ErrFull},
		{"orders without names", func(r *api.Realm) { r.Orders = append(make([]api.Order, 1), r.Orders...) }, api.ErrFull},
		{"usances of 0 days", func(r *api.Realm) { r.Usances = make([]api.Usance, 101) }, api.ErrFull},
		{"rates of 0", func(r *api.Realm) { r.Rates = make([]api.Rate, 101) }, api.ErrFull},
		{"halts of no order", func(r *api.Realm) { r.Halts = slices.Repeat([]api.Halt{{Order: -1}}, 21) }, api.ErrFull},
	} {
		r := filled()
		c.bend(&r)
		if got := realm.Check(r); got != c.want {
			t.Errorf("%s: Check = %d, want %d", c.name, got, c.want)
		}
	}
}

// Of each list, a fault that Check reports with an error that the list before it does not have.
func faults() []bend {
	return []bend{
		{"currencies", func(r *api.Realm) { r.Currencies[2] = "" }, api.ErrForm},
		{"cities", func(r *api.Realm) { r.Cities[2].Name = "Lyon" }, api.ErrTwice},
		{"groups", func(r *api.Realm) { r.Groups[0].Grade = -1 }, api.ErrArg},
		{"firms", func(r *api.Realm) { r.Firms[2].Name = "" }, api.ErrForm},
		{"orders", func(r *api.Realm) { r.Orders[1].Name = "geneva" }, api.ErrTwice},
		{"usances", func(r *api.Realm) { r.Usances = make([]api.Usance, 101) }, api.ErrFull},
		{"rates", func(r *api.Realm) { r.Rates[1].Num = 0 }, api.ErrArg},
		{"halts", func(r *api.Realm) { r.Halts = make([]api.Halt, 21) }, api.ErrFull},
	}
}

// P9.1: of two faults in two lists, that of the earlier list counts.
func TestListByList(t *testing.T) {
	l := faults()
	for i := range l {
		for j := i + 1; j < len(l); j++ {
			r := fullRealm()
			l[j].bend(&r)
			l[i].bend(&r)
			if got := realm.Check(r); got != l[i].want {
				t.Errorf("%s and %s: Check = %d, want %d", l[i].name, l[j].name, got, l[i].want)
			}
		}
	}
}

// P9.1: of two faults in one list, that of the earlier element counts; of two in one element, ErrForm comes first, then ErrTwice, then ErrArg, but for usances.
func TestElementByElement(t *testing.T) {
	checkBends(t, []bend{
		{"currency: twice, then none", func(r *api.Realm) { r.Currencies[1], r.Currencies[2] = "franc", "" }, api.ErrTwice},
		{"currency: none, then twice", func(r *api.Realm) { r.Currencies[1], r.Currencies[2] = "", "franc" }, api.ErrForm},
		{"currency: none, twice", func(r *api.Realm) { r.Currencies[0], r.Currencies[1] = "1", "1" }, api.ErrForm},
		{"city: wrong, then no name", func(r *api.Realm) { r.Cities[0].Order, r.Cities[1].Name = 5, "" }, api.ErrArg},
		{"city: wrong, then twice", func(r *api.Realm) { r.Cities[0].Currency, r.Cities[1].Name = 5, "Lyon" }, api.ErrArg},
		{"city: no name and wrong", func(r *api.Realm) { r.Cities[1].Order, r.Cities[1].Name = 5, "" }, api.ErrForm},
		{"city: twice and wrong", func(r *api.Realm) { r.Cities[1].Shut, r.Cities[1].Name = upward(0, 201), "Lyon" }, api.ErrTwice},
		{"firm: wrong, then twice", func(r *api.Realm) { r.Firms[1].City, r.Firms[2].Name = 5, "Hope" }, api.ErrArg},
		{"firm: twice and wrong", func(r *api.Realm) { r.Firms[2].City, r.Firms[2].Name = 5, "Hope" }, api.ErrTwice},
		{"firm: no name and wrong", func(r *api.Realm) { r.Firms[2].Group, r.Firms[2].Name = 5, "a b" }, api.ErrForm},
		{"order: wrong, then twice", func(r *api.Realm) { r.Orders[0].Choices[0].By, r.Orders[1].Name = 9, "geneva" }, api.ErrArg},
		{"order: twice and wrong", func(r *api.Realm) { r.Orders[1].Rules[0].Ask, r.Orders[1].Name = -9, "geneva" }, api.ErrTwice},
		{"order: no name and wrong", func(r *api.Realm) { r.Orders[1].Rules[0].Ask, r.Orders[1].Name = -9, "" }, api.ErrForm},
		{"usance: twice and 0 days", func(r *api.Realm) { r.Usances[1] = api.Usance{From: 0, To: 1} }, api.ErrArg},
		{"usance: twice and no cities", func(r *api.Realm) { r.Usances = []api.Usance{{From: 9, To: 9, Days: 1}, {From: 9, To: 9, Days: 1}} }, api.ErrArg},
		{"usance: twice, then 0 days", func(r *api.Realm) { r.Usances[1], r.Usances[2].Days = r.Usances[0], 0 }, api.ErrTwice},
		{"usance: 0 days, then twice", func(r *api.Realm) { r.Usances[1].Days, r.Usances[2] = 0, r.Usances[0] }, api.ErrArg},
	})
}

// P9.1: an index is checked by the list as it is, even if that list, which comes later, is itself not right.
func TestIndicesOfWrongLists(t *testing.T) {
	checkBends(t, []bend{
		{"orders without names", func(r *api.Realm) { r.Orders = make([]api.Order, 6); r.Cities[0].Order = 5 }, api.ErrForm},
		{"too many orders", func(r *api.Realm) { r.Orders = make([]api.Order, 30); r.Cities[0].Order = 29 }, api.ErrFull},
		{"an order after them", func(r *api.Realm) { r.Orders = make([]api.Order, 30); r.Cities[0].Order = 30 }, api.ErrArg},
	})
}

// P9.2: OrderAt, for cities and for what is none.
func TestOrderAt(t *testing.T) {
	r := fullRealm()
	for city, want := range []int{1, 0, 1} {
		if got := realm.OrderAt(r, city); got != want {
			t.Errorf("OrderAt(%d) = %d, want %d", city, got, want)
		}
	}
	for _, city := range append(noIndices, 3) {
		if got := realm.OrderAt(r, city); got != api.None {
			t.Errorf("OrderAt(%d) = %d, want None", city, got)
		}
	}
	if got := realm.OrderAt(api.Realm{}, 0); got != api.None {
		t.Errorf("OrderAt without cities = %d", got)
	}
}

// P9.2: Usance, in one direction and the other, from a city to itself, and between what are no cities.
func TestUsance(t *testing.T) {
	r := fullRealm()
	r.Usances = append(r.Usances, api.Usance{From: 2, To: 2, Days: 3}, api.Usance{From: -1, To: 9, Days: -4}, api.Usance{From: 0, To: 1, Days: 61}, api.Usance{From: 1, To: 2, Days: 0}, api.Usance{From: 1, To: 2, Days: 8})
	for _, c := range []struct{ from, to, want int }{{0, 1, 60}, {1, 0, 30}, {0, 2, 15}, {2, 2, 3}, {-1, 9, -4}, {1, 2, 0}} {
		if d, e := realm.Usance(r, c.from, c.to); d != c.want || e != api.OK {
			t.Errorf("Usance(%d, %d) = %d, %d, want %d", c.from, c.to, d, e, c.want)
		}
	}
	for _, c := range []struct{ from, to int }{{2, 0}, {0, 0}, {1, 1}, {2, 1}, {9, -1}, {-1, -1}, {math.MinInt, math.MaxInt}} {
		if d, e := realm.Usance(r, c.from, c.to); d != 0 || e != api.ErrNone {
			t.Errorf("Usance(%d, %d) = %d, %d, want 0, ErrNone", c.from, c.to, d, e)
		}
	}
}

// P9.2: Members, also of groups that do not exist.
func TestMembers(t *testing.T) {
	r := fullRealm()
	r.Firms = append(r.Firms, api.Firm{Name: "Fugger", Group: -1}, api.Firm{Name: "Welser", Group: 1}, api.Firm{Group: -1})
	for _, c := range []struct {
		group int
		want  []int
	}{{0, nil}, {1, []int{0, 2, 4}}, {2, []int{1}}, {-1, []int{3, 5}}, {3, nil}, {math.MinInt, nil}, {math.MaxInt, nil}} {
		if got := realm.Members(r, c.group); !slices.Equal(got, c.want) {
			t.Errorf("Members(%d) = %v, want %v", c.group, got, c.want)
		}
	}
}

// P9.2: Grade, for firms, for what is none, and for firms whose group is none.
func TestGrade(t *testing.T) {
	r := fullRealm()
	for firm, want := range []int{0, 9, 0} {
		if got := realm.Grade(r, firm); got != want {
			t.Errorf("Grade(%d) = %d, want %d", firm, got, want)
		}
	}
	for _, firm := range append(noIndices, 3) {
		if got := realm.Grade(r, firm); got != api.None {
			t.Errorf("Grade(%d) = %d, want None", firm, got)
		}
	}
	for _, group := range append(noIndices, 3) {
		r.Firms[1].Group = group
		if got := realm.Grade(r, 1); got != api.None {
			t.Errorf("Grade of a firm of the group %d = %d, want None", group, got)
		}
	}
}

// P9.3: City and Firm, of the first one with a name, whether it is a name or not.
func TestFind(t *testing.T) {
	r := fullRealm()
	for i, name := range []string{"Lyon", "London", "Genova"} {
		if got := realm.City(r, name); got != i {
			t.Errorf("City(%q) = %d, want %d", name, got, i)
		}
	}
	for i, name := range []string{"Bodmer", "Hope", "Baring"} {
		if got := realm.Firm(r, name); got != i {
			t.Errorf("Firm(%q) = %d, want %d", name, got, i)
		}
	}
	for _, name := range []string{"", "lyon", "Lyo", "Lyon ", "hope", "franc", "geneva", "\x00", strings.Repeat("a", 999)} {
		if c, f := realm.City(r, name), realm.Firm(r, name); c != api.None || f != api.None {
			t.Errorf("%q is the city %d and the firm %d, want None", name, c, f)
		}
	}
	if c, f := realm.City(r, "Hope"), realm.Firm(r, "Lyon"); c != api.None || f != api.None {
		t.Errorf("the name of a firm is the city %d, that of a city the firm %d", c, f)
	}
	wrong := api.Realm{
		Cities: []api.City{{Name: "a"}, {Name: ""}, {Name: "a b"}, {Name: "a"}, {Name: ""}},
		Firms:  []api.Firm{{Name: "\xff"}, {Name: "a"}, {Name: "\xff"}, {Name: ""}, {Name: "a"}},
	}
	for _, c := range []struct {
		name       string
		city, firm int
	}{{"a", 0, 1}, {"", 1, 3}, {"a b", 2, api.None}, {"\xff", api.None, 0}} {
		if got := realm.City(wrong, c.name); got != c.city {
			t.Errorf("City(%q) = %d, want %d", c.name, got, c.city)
		}
		if got := realm.Firm(wrong, c.name); got != c.firm {
			t.Errorf("Firm(%q) = %d, want %d", c.name, got, c.firm)
		}
	}
}

// P9.4: OrderAt and Grade return what stands in a realm that is not right.
func TestWrongRealms(t *testing.T) {
	r := api.Realm{
		Cities: []api.City{{Order: 7}, {Order: math.MinInt}, {Order: api.None}},
		Groups: []api.Group{{Grade: -5}, {Grade: math.MaxInt}},
		Firms:  []api.Firm{{Group: 1}, {Group: 0}},
	}
	for city, want := range []int{7, math.MinInt, api.None} {
		if got := realm.OrderAt(r, city); got != want {
			t.Errorf("OrderAt(%d) = %d, want %d", city, got, want)
		}
	}
	for firm, want := range []int{math.MaxInt, -5} {
		if got := realm.Grade(r, firm); got != want {
			t.Errorf("Grade(%d) = %d, want %d", firm, got, want)
		}
	}
}
