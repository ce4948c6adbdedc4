package journal_test

import (
	"fmt"
	"math/rand"
	"regexp"
	"slices"
	"strconv"
	"strings"
	"testing"

	"allonge/api"
	"allonge/disk"
	"allonge/journal"
)

type dice struct{ *rand.Rand }

func newDice() dice {
	return dice{rand.New(rand.NewSource(8))}
}

// text returns a text of up to n bytes, of those that stand in encodings and headers.
func (r dice) text(n int) string {
	b := make([]byte, r.Intn(n+1))
	for i := range b {
		b[i] = "0123456;;\x00a\xff"[r.Intn(12)]
	}
	return string(b)
}

// list returns a list whose encodings have up to n bytes.
func (r dice) list(n int) []string {
	var l []string
	for {
		s := r.text(1 + r.Intn(20))
		if len(code(append(l, s)...)) > n {
			return l
		}
		l = append(l, s)
		if r.Intn(3) == 0 {
			return l
		}
	}
}

// header returns a sector that is a header, or nearly one.
func (r dice) header(n int) string {
	switch r.Intn(8) {
	case 0:
		return full(r.text(16))
	case 1:
		return head(n)[:8] + head(r.Intn(20))[8:]
	case 2:
		return head(r.Intn(70))
	}
	return head(n)
}

// disk returns a disk that is up, without pending writes; many of them hold a journal.
func (r dice) disk() api.Disk {
	n := 1 + r.Intn(4)
	l := r.list(16 * n)
	text := code(l...)
	earlier := len(code(l[:r.Intn(len(l)+1)]...))
	d := up(r.header(len(text)), r.header(earlier), n, text)
	if r.Intn(2) == 0 {
		d.Sectors[0], d.Sectors[1] = d.Sectors[1], d.Sectors[0]
	}
	for at := range d.Sectors[2:] {
		if 16*at >= len(text) {
			d.Sectors[2+at] = full(r.text(16))
		}
	}
	if r.Intn(10) == 0 {
		d.Sectors[2+r.Intn(n)] = full(r.text(16))
	}
	if r.Intn(2) == 0 {
		d.Left = r.Intn(8)
	}
	return d
}

// held is a journal by the definitions.
type held struct {
	list          []string
	current, used int
}

var eightDigits = regexp.MustCompile(`^[0-9]{8}$`)

// heldBy returns the journal that a disk holds.
func heldBy(d api.Disk) (held, bool) {
	h := held{current: -1}
	for i, s := range d.Sectors[:2] {
		if !eightDigits.MatchString(s[:8]) || s[8:] != s[:8] {
			continue
		}
		if n, _ := strconv.Atoi(s[:8]); h.current < 0 || n > h.used {
			h.current, h.used = i, n
		}
	}
	log := strings.Join(d.Sectors[2:], "")
	if h.current < 0 || h.used > len(log) {
		return held{}, false
	}
	for text := log[:h.used]; text != ""; {
		at := slices.IndexFunc(prefixes, func(p string) bool { return strings.HasPrefix(text, p) })
		if at < 0 || len(text) < len(prefixes[at])+at || len(h.list) == 500 {
			return held{}, false
		}
		text = text[len(prefixes[at]):]
		h.list = append(h.list, text[:at])
		text = text[at:]
	}
	return h, true
}

// prefixes are what stands before the strings of 0 to 2000 bytes.
var prefixes = func() []string {
	l := make([]string, 2001)
	for n := range l {
		l[n] = fmt.Sprintf("%d;", n)
	}
	return l
}()

// appended returns the disk to which a string was appended, byte by byte.
func appended(d api.Disk, s string) (api.Disk, api.Errno) {
	h, ok := heldBy(d)
	if !ok {
		return api.Disk{}, api.ErrJournal
	}
	text := code(s)
	end := h.used + len(text)
	switch {
	case len(s) > 2000:
		return api.Disk{}, api.ErrArg
	case len(h.list) == 500, end > 16*(len(d.Sectors)-2):
		return api.Disk{}, api.ErrFull
	}
	var writes []api.Write
	for at := 2; at < len(d.Sectors); at++ {
		b := make([]byte, 16)
		has := false
		for i := range b {
			switch n := 16*(at-2) + i; {
			case n < h.used:
				b[i] = d.Sectors[at][i]
			case n < end:
				b[i] = text[n-h.used]
				has = true
			}
		}
		if has {
			writes = append(writes, api.Write{At: at, Text: string(b)})
		}
	}
	return performed(d, append(writes, api.Write{At: 1 - h.current, Text: head(end)}))
}

// performed returns the disk after some writes, or until the power fails.
func performed(d api.Disk, writes []api.Write) (api.Disk, api.Errno) {
	d = copied(d)
	for _, w := range writes {
		if d.Left == 0 {
			d.Sectors[w.At] = w.Text[:8] + d.Sectors[w.At][8:]
			return down(d), api.ErrDown
		}
		d.Sectors[w.At] = w.Text
		if d.Left > 0 {
			d.Left--
		}
	}
	return d, api.OK
}

// P8.2 to P8.4: on random disks all functions answer, and change the disk, as the definitions say.
func TestCallsByTheDefinition(t *testing.T) {
	r := newDice()
	journals := 0
	for range 30000 {
		d := r.disk()
		h, ok := heldBy(d)
		l, e := journal.All(d)
		if (e == api.OK) != ok || !ok && e != api.ErrJournal || !slices.Equal(l, h.list) {
			t.Fatalf("All(%#v) = %q, %d, want %q, %v", d, l, e, h.list, ok)
		}
		if ok {
			journals++
			holds(t, "a random disk", d, h.list...)
		}
		s := r.text(40)
		want, wantErr := appended(d, s)
		checkAppend(t, d, s, want, wantErr)
		want, wantErr = performed(d, []api.Write{{At: 0, Text: head(0)}, {At: 1, Text: head(0)}})
		checkFormat(t, d, want, wantErr)
	}
	if journals < 10000 || journals > 25000 {
		t.Errorf("%d of the random disks hold a journal", journals)
	}
}

// P8.5: calls leave the disk that they are given as it is, and what they return shares no memory with it.
func TestDisksStay(t *testing.T) {
	r := newDice()
	calls := map[string]func(api.Disk) (api.Disk, []string, api.Errno){
		"Format": func(d api.Disk) (api.Disk, []string, api.Errno) { x, e := journal.Format(d); return x, nil, e },
		"All":    func(d api.Disk) (api.Disk, []string, api.Errno) { l, e := journal.All(d); return api.Disk{}, l, e },
		"Len": func(d api.Disk) (api.Disk, []string, api.Errno) {
			n, e := journal.Len(d)
			return api.Disk{Left: n}, nil, e
		},
		"Get": func(d api.Disk) (api.Disk, []string, api.Errno) {
			s, e := journal.Get(d, 0)
			return api.Disk{}, []string{s}, e
		},
		"Append": func(d api.Disk) (api.Disk, []string, api.Errno) { x, e := journal.Append(d, "a"); return x, nil, e },
		"Append long": func(d api.Disk) (api.Disk, []string, api.Errno) {
			x, e := journal.Append(d, d.Sectors[0]+"b")
			return x, nil, e
		},
	}
	for range 1000 {
		for name, call := range calls {
			d := r.disk()
			if r.Intn(8) == 0 {
				d = with(d, 2, "a")
			}
			// What lies beyond the lengths is neither read nor written.
			beyond := func(extra string) api.Disk {
				x := copied(d)
				x.Sectors = append(x.Sectors, extra)[:len(d.Sectors)]
				x.Pending = append(x.Pending, api.Write{At: 1 << 20, Text: extra})[:len(d.Pending)]
				return x
			}
			stays := func(x api.Disk) bool {
				return same(x, d) && x.Sectors[:len(d.Sectors)+1][len(d.Sectors)] == full("beyond") && x.Pending[:len(d.Pending)+1][len(d.Pending)].Text == full("beyond")
			}
			a, b := beyond(full("beyond")), beyond(head(16))
			got, l, e := call(a)
			other, m, f := call(b)
			if e != f || !same(got, other) || !slices.Equal(l, m) {
				t.Errorf("%s(%#v) reads beyond it", name, d)
			}
			if !stays(a) {
				t.Errorf("%s(%#v) leaves %#v", name, d, a)
			}
			clear(got.Sectors[:cap(got.Sectors)])
			clear(got.Pending[:cap(got.Pending)])
			clear(l[:cap(l)])
			if !stays(a) {
				t.Errorf("what %s(%#v) returns shares memory with it", name, d)
			}
			again, k, _ := call(a)
			if !same(again, other) || !slices.Equal(k, m) {
				t.Errorf("%s(%#v) answers otherwise the second time", name, d)
			}
			clear(b.Sectors)
			clear(b.Pending)
			if !same(again, other) || !slices.Equal(k, m) {
				t.Errorf("what %s(%#v) returned has changed with it", name, d)
			}
		}
	}
}

// P8.5: two lists that come from one do not meet.
func TestBranches(t *testing.T) {
	d := holding(4, "a")
	x, _ := journal.Append(d, "x")
	y, _ := journal.Append(d, strings.Repeat("y", 30))
	z, _ := journal.Append(x, "z")
	empty, _ := journal.Format(x)
	holds(t, "the first disk", d, "a")
	holds(t, "a branch", x, "a", "x")
	holds(t, "another branch", y, "a", strings.Repeat("y", 30))
	holds(t, "what follows", z, "a", "x", "z")
	holds(t, "a formatted disk", empty)
}

// survives checks that a failure during an append, after so many writes, leaves one of two lists, to which more can be appended.
func survives(t *testing.T, d api.Disk, left int, s string, list []string) {
	t.Helper()
	x, e := journal.Append(armed(d, left), s)
	longer := append(slices.Clone(list), s)
	if e == api.OK {
		x, _ = disk.Cut(x)
	}
	after := longer
	x, f := disk.Start(x)
	l, g := journal.All(x)
	if f != api.OK || g != api.OK {
		t.Fatalf("Append(%#v, %q) with %d writes = %d, then %d, %d", d, s, left, e, f, g)
	}
	if e == api.ErrDown && slices.Equal(l, list) {
		after = list
	}
	holds(t, "after the failure", x, after...)
	for _, more := range []string{"m", ""} {
		if x, e = journal.Append(x, more); e != api.OK {
			t.Fatalf("Append(%q) after a failure = %d", more, e)
		}
		after = append(slices.Clone(after), more)
		x, _ = disk.Cut(x)
		x, _ = disk.Start(x)
		holds(t, "after more", x, after...)
	}
}

// P8.6: wherever the power fails while a string is appended, the list is the one before, or the one with it.
func TestFailureDuringAppend(t *testing.T) {
	for size := range 35 {
		list := []string{"a", strings.Repeat("b", size), ""}
		for _, d := range []api.Disk{
			holding(10, list...),
			up("0000000100000002", head(len(code(list...))), 10, code(list...)),
			up(head(len(code(list...))), head(len(code("a"))), 10, code(list...)+strings.Repeat("z", 40)),
			up(head(len(code(list...))), head(len(code(list...))), 10, code(list...)+strings.Repeat("0;", 40)),
			// What a header of the longer list would end with stands there already.
			up(head(len(code(list...))), "zzzzzzzz"+head(len(code(list...)) + 20)[8:], 10, code(list...)),
		} {
			for more := range 40 {
				for left := range 6 {
					survives(t, d, left, strings.Repeat("c", more), list)
				}
			}
		}
	}
}

// P8.6: what was appended with OK stays, however often the power fails later, and nothing else comes.
func TestFailuresForLong(t *testing.T) {
	r := newDice()
	for range 300 {
		n := 3 + r.Intn(60)
		d, _ := disk.New(n)
		d, e := journal.Format(d)
		var list []string
		for range 40 {
			if r.Intn(2) == 0 {
				d, _ = disk.Arm(d, r.Intn(6))
			}
			s := r.text(40)
			longer := append(slices.Clone(list), s)
			var x api.Disk
			x, e = journal.Append(d, s)
			switch e {
			case api.OK:
				d, list = x, longer
			case api.ErrFull:
				if len(code(longer...)) <= 16*(n-2) {
					t.Fatalf("Append(%q) to %q on %d sectors is refused", s, list, n)
				}
			case api.ErrDown:
				d, e = disk.Start(x)
				if l, _ := journal.All(d); slices.Equal(l, longer) {
					list = longer
				}
			}
			if e != api.OK && e != api.ErrFull {
				t.Fatalf("Append(%q) to %q on %d sectors: %d", s, list, n, e)
			}
			if r.Intn(8) == 0 {
				d, _ = disk.Cut(d)
				d, _ = disk.Start(d)
			}
			holds(t, "a disk that fails often", d, list...)
		}
	}
}

// P8.7: strings can be appended as long as their encodings fit into the log, and an error leaves the disk as it is.
func TestRoom(t *testing.T) {
	r := newDice()
	for range 60 {
		n := 3 + r.Intn(510)
		longest := 1 + r.Intn(2000)
		d, _ := disk.New(n)
		d, _ = journal.Format(d)
		var list []string
		used := 0
		for range 600 {
			s := strings.Repeat("s", r.Intn(longest+1))
			size := len(code(s))
			x, e := journal.Append(d, s)
			if used+size > 16*(n-2) || len(list) == 500 {
				refuses(t, "Append without room", x, e, api.ErrFull)
				if longest == 0 {
					break
				}
				longest /= 2
				continue
			}
			if e != api.OK {
				t.Fatalf("Append of %d bytes after %d of %d: %d", size, used, 16*(n-2), e)
			}
			d, list, used = x, append(list, s), used+size
		}
		holds(t, "a disk with little room", d, list...)
		refusesAppend(t, d, strings.Repeat("s", 2001), api.ErrArg)
		holds(t, "a disk after errors", d, list...)
	}
}
