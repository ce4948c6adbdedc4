package wording

import (
	"strconv"
	"strings"

	"allonge/api"
	"allonge/calendar"
)

// write returns the wording of a part of a right bill.
func write(r api.Realm, b api.Bill, part int) string {
	lines := []string{
		title(b) + " " + strconv.Itoa(part+1) + " of " + strconv.Itoa(b.Parts),
		"drawn in " + r.Cities[b.City].Name + " on " + date(b.Day),
		"pay " + term(b.Tenor),
		"to " + payee(r, b),
		strconv.Itoa(b.Sum) + " " + r.Currencies[b.Currency] + interest(b),
		"to be paid by " + r.Firms[b.Drawee].Name + " in " + r.Cities[b.Pay].Name,
	}
	if b.Parts > 1 {
		lines = append(lines, "unless part "+others(b, part)+" was paid")
	}
	if b.Need != api.None {
		lines = append(lines, "in need ask "+r.Firms[b.Need].Name)
	}
	if b.Flags&api.FlNoProtest != 0 {
		lines = append(lines, "without protest")
	}
	lines = append(lines, "signed "+r.Firms[b.Drawer].Name)
	return strings.Join(lines, "\n") + "\n"
}

// title returns what a bill calls itself.
func title(b api.Bill) string {
	if b.Flags&api.FlWord != 0 {
		return "bill"
	}
	return "paper"
}

// date returns the date of a day.
func date(day int) string {
	year, month, dom, _ := calendar.Date(day)
	return strconv.Itoa(year) + "-" + strconv.Itoa(month) + "-" + strconv.Itoa(dom)
}

// term returns when a bill is to be paid.
func term(t api.Tenor) string {
	switch t.Kind {
	case api.TnSight:
		return "at sight"
	case api.TnUsance:
		return "at usance"
	case api.TnFixed:
		return "on " + date(t.N)
	case api.TnAfterSight:
		return period(t) + " after sight"
	}
	return period(t) + " after date"
}

// period returns the days or months of a tenor.
func period(t api.Tenor) string {
	if t.Unit == api.UnMonths {
		return strconv.Itoa(t.N) + " months"
	}
	return strconv.Itoa(t.N) + " days"
}

// payee returns to whom a bill is to be paid.
func payee(r api.Realm, b api.Bill) string {
	switch {
	case b.Payee == api.None:
		return "bearer"
	case b.Flags&api.FlNotToOrder != 0:
		return r.Firms[b.Payee].Name + " not to order"
	}
	return r.Firms[b.Payee].Name + " or order"
}

// interest returns the interest clause of a bill.
func interest(b api.Bill) string {
	if b.Rate == 0 {
		return ""
	}
	return " with interest at " + strconv.Itoa(b.Rate) + " per mille"
}

// others returns the numbers of all parts but one.
func others(b api.Bill, part int) string {
	var l []string
	for i := range b.Parts {
		if i != part {
			l = append(l, strconv.Itoa(i+1))
		}
	}
	return strings.Join(l, " or ")
}
