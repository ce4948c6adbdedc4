package wording

import (
	"slices"
	"strconv"
	"strings"

	"allonge/api"
	"allonge/calendar"
	"allonge/realm"
)

// A reader reads a text from its start on. Where something else comes than it looks for, it reads nothing, and goes on.
type reader struct {
	realm api.Realm
	rest  string
}

// read returns the bill and the part whose wording a text is; anything, if it is the wording of none.
func read(r api.Realm, text string) (b api.Bill, part int) {
	p := reader{realm: r, rest: text}
	part = p.heading(&b)
	p.take("drawn in ")
	b.City = p.city()
	p.take(" on ")
	b.Day = p.date()
	p.take("\npay ")
	b.Tenor = p.term()
	p.take("\nto ")
	p.payee(&b)
	p.sum(&b)
	p.take("to be paid by ")
	b.Drawee = p.firm()
	p.take(" in ")
	b.Pay = p.city()
	p.take("\n")
	p.clauses(&b)
	p.take("signed ")
	b.Drawer = p.firm()
	return b, part
}

// heading reads the first line, and returns the part.
func (p *reader) heading(b *api.Bill) int {
	if p.take("bill ") {
		b.Flags |= api.FlWord
	} else {
		p.take("paper ")
	}
	part := p.number() - 1
	p.take(" of ")
	b.Parts = p.number()
	p.take("\n")
	return part
}

// term reads a tenor.
func (p *reader) term() api.Tenor {
	switch {
	case p.take("at sight"):
		return api.Tenor{Kind: api.TnSight}
	case p.take("at usance"):
		return api.Tenor{Kind: api.TnUsance}
	case p.take("on "):
		return api.Tenor{Kind: api.TnFixed, N: p.date()}
	}
	t := api.Tenor{Kind: api.TnAfterSight, N: p.number(), Unit: api.UnMonths}
	if p.take(" days") {
		t.Unit = api.UnDays
	} else {
		p.take(" months")
	}
	if !p.take(" after sight") {
		t.Kind = api.TnAfterDate
		p.take(" after date")
	}
	return t
}

// payee reads the rest of the line that says to whom the bill is to be paid.
func (p *reader) payee(b *api.Bill) {
	// A firm may be named "bearer": only where nothing follows the word is the bill one to bearer.
	if p.take("bearer\n") {
		b.Payee = api.None
		return
	}
	b.Payee = p.firm()
	if p.take(" not to order\n") {
		b.Flags |= api.FlNotToOrder
	} else {
		p.take(" or order\n")
	}
}

// sum reads the line of the sum.
func (p *reader) sum(b *api.Bill) {
	b.Sum = p.number()
	p.take(" ")
	b.Currency = slices.Index(p.realm.Currencies, p.name())
	if p.take(" with interest at ") {
		b.Rate = p.number()
		p.take(" per mille")
	}
	p.take("\n")
}

// clauses reads the lines that not every bill has.
func (p *reader) clauses(b *api.Bill) {
	if p.take("unless part ") {
		// The first line decides what stands here.
		_, p.rest, _ = strings.Cut(p.rest, "\n")
	}
	b.Need = api.None
	if p.take("in need ask ") {
		b.Need = p.firm()
		p.take("\n")
	}
	if p.take("without protest\n") {
		b.Flags |= api.FlNoProtest
	}
}

// take reads a string, if it comes next, and reports whether it does.
func (p *reader) take(s string) bool {
	rest, ok := strings.CutPrefix(p.rest, s)
	p.rest = rest
	return ok
}

// number reads decimal digits, and returns 0 if there are none.
func (p *reader) number() int {
	i := 0
	for i < len(p.rest) && '0' <= p.rest[i] && p.rest[i] <= '9' {
		i++
	}
	n, _ := strconv.Atoi(p.rest[:i])
	p.rest = p.rest[i:]
	return n
}

// date reads a date, and returns its day.
func (p *reader) date() int {
	year := p.number()
	p.take("-")
	month := p.number()
	p.take("-")
	dom := p.number()
	day, _ := calendar.Day(year, month, dom)
	return day
}

// firm reads the name of a firm.
func (p *reader) firm() int {
	return realm.Firm(p.realm, p.name())
}

// city reads the name of a city.
func (p *reader) city() int {
	return realm.City(p.realm, p.name())
}

// name reads what comes before the next space or end of a line.
func (p *reader) name() string {
	i := max(0, strings.IndexAny(p.rest, " \n"))
	name := p.rest[:i]
	p.rest = p.rest[i:]
	return name
}
