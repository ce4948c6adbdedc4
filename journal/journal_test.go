package journal_test

import (
	"fmt"
	"math"
	"reflect"
	"slices"
	"strings"
	"testing"

	"allonge/api"
	"allonge/disk"
	"allonge/journal"
)

// The Left of a disk whose power does not fail.
const unlimited = -1

// full returns a text with bytes 0 after it, up to the size of a sector.
func full(s string) string {
	return s + strings.Repeat("\x00", 16-len(s))
}

// head is a header.
func head(n int) string {
	return fmt.Sprintf("%08d%08d", n, n)
}

// code is the encodings of strings.
func code(l ...string) string {
	text := ""
	for _, s := range l {
		text += fmt.Sprintf("%d;%s", len(s), s)
	}
	return text
}

// cut returns n sectors that begin with a text.
func cut(n int, text string) []string {
	text += strings.Repeat("\x00", 16*n-len(text))
	l := make([]string, n)
	for i := range l {
		l[i] = text[16*i : 16*i+16]
	}
	return l
}

// up returns a disk with two sectors and a log of n sectors that begins with a text.
func up(zero, one string, n int, text string) api.Disk {
	return api.Disk{Sectors: append([]string{full(zero), full(one)}, cut(n, text)...), Left: unlimited}
}

// holding returns a disk with a log of n sectors that holds a list.
func holding(n int, l ...string) api.Disk {
	text := code(l...)
	return up(head(len(text)), "", n, text)
}

// armed returns a disk with this Left.
func armed(d api.Disk, left int) api.Disk {
	d.Left = left
	return d
}

// down returns a disk without power.
func down(d api.Disk) api.Disk {
	d.Left = unlimited
	d.Down = true
	return d
}

// with returns a disk with a pending write.
func with(d api.Disk, at int, s string) api.Disk {
	d.Pending = append(slices.Clone(d.Pending), api.Write{At: at, Text: full(s)})
	return d
}

// same reports whether two disks are equal; a list without elements may be nil.
func same(a, b api.Disk) bool {
	return slices.Equal(a.Sectors, b.Sectors) && slices.Equal(a.Pending, b.Pending) && a.Left == b.Left && a.Down == b.Down
}

// copied returns a disk that is the same and shares nothing.
func copied(d api.Disk) api.Disk {
	d.Sectors = slices.Clone(d.Sectors)
	d.Pending = slices.Clone(d.Pending)
	return d
}

func checkDisk(t *testing.T, call string, got api.Disk, e api.Errno, want api.Disk, wantErr api.Errno) {
	t.Helper()
	if !same(got, want) || e != wantErr {
		t.Errorf("%s = %#v, %d, want %#v, %d", call, got, e, want, wantErr)
	}
}

func checkFormat(t *testing.T, d, want api.Disk, wantErr api.Errno) {
	t.Helper()
	got, e := journal.Format(d)
	checkDisk(t, "Format", got, e, want, wantErr)
}

func checkAppend(t *testing.T, d api.Disk, s string, want api.Disk, wantErr api.Errno) {
	t.Helper()
	got, e := journal.Append(d, s)
	checkDisk(t, fmt.Sprintf("Append(%.20q)", s), got, e, want, wantErr)
}

// refuses checks that a call had an error, and no other result.
func refuses(t *testing.T, call string, got any, e, want api.Errno) {
	t.Helper()
	v := reflect.ValueOf(got)
	if e != want || !v.IsZero() && !(v.Kind() == reflect.Slice && v.Len() == 0) {
		t.Errorf("%s = %#v, %d, want nothing and %d", call, got, e, want)
	}
}

// refusesAppend checks that a string is not appended.
func refusesAppend(t *testing.T, d api.Disk, s string, want api.Errno) {
	t.Helper()
	x, e := journal.Append(d, s)
	refuses(t, fmt.Sprintf("Append(%#v, %.20q)", d, s), x, e, want)
}

// refusesAll checks that all functions but Format have an error, whatever the other arguments.
func refusesAll(t *testing.T, name string, d api.Disk, want api.Errno) {
	t.Helper()
	l, e := journal.All(d)
	refuses(t, "All, "+name, l, e, want)
	n, e := journal.Len(d)
	refuses(t, "Len, "+name, n, e, want)
	for _, i := range []int{0, 1, -1, 1000} {
		s, e := journal.Get(d, i)
		refuses(t, "Get, "+name, s, e, want)
	}
	for _, s := range []string{"", "a", strings.Repeat("a", 2001), strings.Repeat("a", 1<<14)} {
		x, e := journal.Append(d, s)
		refuses(t, "Append, "+name, x, e, want)
	}
}

// refusesFormat checks that a disk is not formatted.
func refusesFormat(t *testing.T, name string, d api.Disk, want api.Errno) {
	t.Helper()
	x, e := journal.Format(d)
	refuses(t, "Format, "+name, x, e, want)
}

// holds checks what All, Len and Get say of a disk.
func holds(t *testing.T, name string, d api.Disk, want ...string) {
	t.Helper()
	l, e := journal.All(d)
	if e != api.OK || !slices.Equal(l, want) {
		t.Errorf("All, %s = %q, %d, want %q", name, l, e, want)
		return
	}
	if n, e := journal.Len(d); e != api.OK || n != len(want) {
		t.Errorf("Len, %s = %d, %d, want %d", name, n, e, len(want))
	}
	for i, s := range want {
		if got, e := journal.Get(d, i); e != api.OK || got != s {
			t.Errorf("Get(%d), %s = %q, %d, want %q", i, name, got, e, s)
		}
	}
	for _, i := range []int{-1, -2, len(want), len(want) + 1, 500, 1 << 32, math.MinInt, math.MaxInt} {
		s, e := journal.Get(d, i)
		refuses(t, fmt.Sprintf("Get(%d), %s", i, name), s, e, api.ErrNone)
	}
}

// P8.1: what is no disk is refused first, also where it is down, has pending writes, or could hold no journal.
func TestWrongDisks(t *testing.T) {
	good := holding(3, "a")
	short := copied(good)
	short.Sectors[4] = short.Sectors[4][1:]
	for name, d := range map[string]api.Disk{
		"no value":                     {},
		"no sectors, and down":         {Left: unlimited, Down: true},
		"one sector too many":          up(head(0), head(0), 511, ""),
		"a short sector":               short,
		"a short sector, and down":     down(short),
		"a short sector, and pending":  with(short, 0, "a"),
		"a write after all sectors":    with(good, 5, "a"),
		"a write before sector 0":      with(good, -1, "a"),
		"a short write":                {Sectors: good.Sectors, Left: unlimited, Pending: []api.Write{{Text: "a"}}},
		"a short Left":                 armed(good, -2),
		"a long Left":                  armed(good, 513),
		"down, and armed":              {Sectors: good.Sectors, Left: 1, Down: true},
		"down, and pending":            with(down(good), 0, "a"),
		"two sectors, and a long Left": armed(up("", "", 0, ""), 513),
	} {
		refusesFormat(t, name, d, api.ErrArg)
		refusesAll(t, name, d, api.ErrArg)
	}
}

// P8.1: then a disk that is down, also one that could hold no journal.
func TestDown(t *testing.T) {
	for name, d := range map[string]api.Disk{
		"a journal":   down(holding(3, "a", "b")),
		"no journal":  down(up("", "", 3, "")),
		"two sectors": down(up(head(0), head(0), 0, "")),
		"one sector":  down(api.Disk{Sectors: []string{head(0)}}),
	} {
		refusesFormat(t, name, d, api.ErrDown)
		refusesAll(t, name, d, api.ErrDown)
	}
}

// P8.1: then a disk with pending writes, whatever they write, and whether or not the power is about to fail.
func TestPending(t *testing.T) {
	good := holding(3, "a", "b")
	for name, d := range map[string]api.Disk{
		"a write to a header":      with(good, 0, head(0)),
		"a write that changes not": with(good, 0, good.Sectors[0]),
		"a write far off":          with(good, 4, "a"),
		"two writes":               with(with(good, 4, "a"), 3, ""),
		"armed":                    armed(with(good, 4, "a"), 0),
		"armed, enough":            armed(with(good, 4, "a"), 512),
		"no journal":               with(up("", "", 3, ""), 0, head(0)),
		"two sectors":              with(up(head(0), "", 0, ""), 0, head(0)),
		"one sector":               with(api.Disk{Sectors: []string{head(0)}, Left: unlimited}, 0, head(0)),
	} {
		refusesFormat(t, name, d, api.ErrState)
		refusesAll(t, name, d, api.ErrState)
	}
	// A list of pending writes without elements is none.
	d := copied(good)
	d.Pending = []api.Write{}
	holds(t, "an empty list of writes", d, "a", "b")
}

// P8.2: a disk with fewer than 3 sectors is too small, and any other one has an empty list then.
func TestFormat(t *testing.T) {
	for n := 1; n <= 512; n++ {
		d, _ := disk.New(n)
		if n < 3 {
			refusesFormat(t, "a new disk", d, api.ErrFull)
			refusesFormat(t, "an armed disk", armed(d, 0), api.ErrFull)
			continue
		}
		if n > 20 && n < 505 {
			continue
		}
		checkFormat(t, d, up(head(0), head(0), n-2, ""), api.OK)
		x, _ := journal.Format(d)
		holds(t, "a formatted disk", x)
	}
	refusesFormat(t, "two headers", up(head(0), head(0), 0, ""), api.ErrFull)
}

// P8.2: the log stays as it was, whatever stood in the sectors 0 and 1.
func TestFormatAgain(t *testing.T) {
	text := code("a", "", "bcdefghijklmnopqrstuv")
	for _, d := range []api.Disk{
		up(head(len(text)), head(2), 3, text), up(head(2), head(len(text)), 3, text), up("", "", 3, text), up("a", "0123456789abcdef", 3, text), up(head(99999999), "", 3, text),
	} {
		checkFormat(t, d, up(head(0), head(0), 3, text), api.OK)
		x, _ := journal.Format(d)
		holds(t, "a disk that was formatted again", x)
		// What is left in the log does not come back.
		x, _ = journal.Append(x, "x")
		holds(t, "a disk that was formatted again", x, "x")
	}
}

// P8.2: what disk.Flush returns, also with ErrDown: the sector 0 is written first.
func TestFormatDown(t *testing.T) {
	d := up("ABCDEFGHIJKLMNOP", "abcdefghijklmnop", 2, "log")
	checkFormat(t, armed(d, 0), down(up("00000000IJKLMNOP", "abcdefghijklmnop", 2, "log")), api.ErrDown)
	checkFormat(t, armed(d, 1), down(up(head(0), "00000000ijklmnop", 2, "log")), api.ErrDown)
	checkFormat(t, armed(d, 2), armed(up(head(0), head(0), 2, "log"), 0), api.OK)
	checkFormat(t, armed(d, 3), armed(up(head(0), head(0), 2, "log"), 1), api.OK)
	checkFormat(t, armed(d, 512), armed(up(head(0), head(0), 2, "log"), 510), api.OK)
}

// P8.3: the list is in the bytes of the log that the current header counts, and the others do not matter.
func TestHolds(t *testing.T) {
	ab := code("ab", "", "c")
	odd := "\x00\xff;1;\n é"
	for name, c := range map[string]struct {
		d    api.Disk
		want []string
	}{
		"header in sector 0":           {up(head(6), "", 1, ab), []string{"ab", ""}},
		"header in sector 1":           {up("", head(6), 1, ab), []string{"ab", ""}},
		"the greater one in sector 0":  {up(head(9), head(6), 1, ab), []string{"ab", "", "c"}},
		"the greater one in sector 1":  {up(head(4), head(6), 1, ab), []string{"ab", ""}},
		"equal headers":                {up(head(4), head(4), 1, ab), []string{"ab"}},
		"a lesser header of no list":   {up(head(5), head(6), 1, ab), []string{"ab", ""}},
		"a torn header in sector 0":    {up("0000000900000006", head(4), 1, ab), []string{"ab"}},
		"a torn header in sector 1":    {up(head(4), "0000000900000006", 1, ab), []string{"ab"}},
		"the number 0":                 {up(head(0), "", 1, ab), nil},
		"the number 0 twice":           {up(head(0), head(0), 1, "no list"), nil},
		"the log is full":              {holding(1, "0123456789a", ""), []string{"0123456789a", ""}},
		"the log of many sectors":      {holding(510, strings.Repeat("x", 2000), strings.Repeat("y", 2000), strings.Repeat("z", 2000)), []string{strings.Repeat("x", 2000), strings.Repeat("y", 2000), strings.Repeat("z", 2000)}},
		"any bytes":                    {holding(2, odd, odd), []string{odd, odd}},
		"a string that is an encoding": {holding(2, code("a", "b"), "3;"), []string{code("a", "b"), "3;"}},
		"500 strings":                  {holding(63, make([]string, 500)...), make([]string, 500)},
		"armed":                        {armed(up(head(6), "", 1, ab), 0), []string{"ab", ""}},
	} {
		holds(t, name, c.d, c.want...)
	}
}

// P8.3: a disk that does not hold a journal.
func TestNoJournal(t *testing.T) {
	ab := code("ab", "", "c")
	for name, d := range map[string]api.Disk{
		"a new disk":                   up("", "", 3, ""),
		"two sectors":                  up(head(0), head(0), 0, ""),
		"one sector":                   {Sectors: []string{head(0)}, Left: unlimited},
		"no header before a list":      up("", "", 1, ab),
		"header in the log":            up("", "", 1, head(0)),
		"torn headers":                 up("0000000900000006", "0000000600000004", 1, ab),
		"a half of a header":           up("00000004", "\x00\x00\x00\x00\x00\x00\x00\x0000000004", 1, ab),
		"no zeros in front":            up("4", "44", 1, ab),
		"spaces in front":              up("       4       4", "4       4       ", 1, ab),
		"a sign":                       up("+0000004+0000004", "-0000004-0000004", 1, ab),
		"minus 0":                      up("-0000000-0000000", "", 1, ab),
		"letters":                      up("0000000a0000000a", "0x0000040x000004", 1, ab),
		"next to digits":               up("0000000/0000000/", "0000000:0000000:", 1, ab),
		"underscores":                  up("0000_0040000_004", "", 1, ab),
		"other digits":                 up("00000٤00000٤", "", 1, ab),
		"one byte beyond the log":      up(head(17), "", 1, "14;0123456789abc"),
		"the log is full, one more":    up(head(17), head(2), 1, code("0123456789a", "")),
		"the greatest number":          up(head(99999999), "", 1, ab),
		"the greatest number, in 1":    up(head(6), head(99999999), 1, ab),
		"the greater one of no list":   up(head(4), head(5), 1, ab),
		"within a string":              up(head(3), "", 1, ab),
		"within a number":              up(head(5), "", 1, ab),
		"one byte":                     up(head(1), "", 1, ab),
		"a byte after the list":        up(head(10), "", 1, ab),
		"not the first encoding":       up(head(9), "", 1, "\x00"+ab),
		"a negative number":            up(head(3), "", 1, "-1;"),
		"minus 0 in the log":           up(head(3), "", 1, "-0;"),
		"zeros in front":               up(head(4), "", 1, "01;a"),
		"two zeros":                    up(head(3), "", 1, "00;"),
		"a plus":                       up(head(4), "", 1, "+1;a"),
		"a list of strings":            up(head(5), "", 1, "1;1;a"),
		"a long number":                up(head(16), "", 1, "99999999999999;a"),
		"a number that wraps around":   up(head(48), "", 3, "18446744073709551617;a"+strings.Repeat("0;", 13)),
		"a string of 2001 bytes":       holding(200, strings.Repeat("x", 2001)),
		"a second one of 2001 bytes":   holding(200, "a", strings.Repeat("x", 2001)),
		"501 strings":                  holding(510, make([]string, 501)...),
		"more than 501 strings":        holding(510, make([]string, 4080)...),
		"two sectors, and a long text": armed(up(head(0), head(0), 0, ""), 0),
	} {
		refusesAll(t, name, d, api.ErrJournal)
	}
}

// P8.3: sector by sector, which 16 bytes are a header: with one byte that differs there is none.
func TestHeaders(t *testing.T) {
	for i := range 16 {
		for b := range 256 {
			text := []byte(head(4))
			was := text[i]
			text[i] = byte(b)
			for _, d := range []api.Disk{up(string(text), "", 1, code("ab")), up("", string(text), 1, code("ab"))} {
				if byte(b) == was {
					holds(t, "a header", d, "ab")
					continue
				}
				if l, e := journal.All(d); e != api.ErrJournal || len(l) != 0 {
					t.Errorf("with the header %q: %q, %d", text, l, e)
				}
			}
		}
	}
}

// lists returns the encodings of the empty list, and of lists of one string of fewer bytes than n.
func lists(n int) []string {
	l := []string{""}
	for size := range n {
		l = append(l, code(strings.Repeat("a", size)))
	}
	return l
}

// P8.3: no other byte counts as a digit, as the one that lies as far from 0, though the log has a list of so many bytes.
func TestDigits(t *testing.T) {
	for b := range 256 {
		n := int(byte(b) - '0')
		if n == 1 {
			continue // no list has encodings of one byte
		}
		text := strings.Repeat("0;", n/2)
		if n%2 > 0 {
			text = "1;a" + text[2:]
		}
		half := "0000000" + string([]byte{byte(b)})
		d := up(half+half, "", 16, text)
		l, e := journal.All(d)
		if digit := n < 10; digit != (e == api.OK) || digit && len(l) != n/2 || !digit && (e != api.ErrJournal || len(l) != 0) {
			t.Errorf("with the header %q: %q, %d", d.Sectors[0], l, e)
		}
	}
}

// P8.4: the sectors of the encoding are written, and the other header.
func TestAppend(t *testing.T) {
	d := holding(3)
	checkAppend(t, d, "", up(head(0), head(2), 3, "0;"), api.OK)
	checkAppend(t, d, "ab", up(head(0), head(4), 3, "2;ab"), api.OK)
	d = up(head(4), head(4), 3, "2;ab")
	checkAppend(t, d, "", up(head(4), head(6), 3, "2;ab0;"), api.OK)
	d = up(head(6), head(4), 3, "2;ab0;")
	checkAppend(t, d, "é", up(head(6), head(10), 3, "2;ab0;2;é"), api.OK)
	d = up("", head(6), 3, "2;ab0;")
	checkAppend(t, d, "c", up(head(9), head(6), 3, "2;ab0;1;c"), api.OK)
	d = up("0000000900000006", head(6), 3, "2;ab0;")
	checkAppend(t, d, "c", up(head(9), head(6), 3, "2;ab0;1;c"), api.OK)
	d = up(head(6), head(5), 3, "2;ab0;")
	checkAppend(t, d, "\x00", up(head(6), head(9), 3, "2;ab0;1;\x00"), api.OK)
	d = up(head(5), head(6), 3, "2;ab0;")
	checkAppend(t, d, "8;", up(head(10), head(6), 3, "2;ab0;2;8;"), api.OK)
}

// P8.4: bytes 0 come after the encoding up to the end of its last sector, and the sectors after it stay as they are.
func TestAppendOverOldBytes(t *testing.T) {
	old := strings.Repeat("z", 80)
	for _, before := range lists(30) {
		for size := range 30 {
			s := strings.Repeat("b", size)
			text := before + code(s)
			sectors := cut((len(text)+15)/16, text)
			log := strings.Join(sectors, "") + old[16*len(sectors):]
			d := up(head(len(before)), "", 5, before+old[len(before):])
			checkAppend(t, d, s, up(head(len(before)), head(len(text)), 5, log), api.OK)
		}
	}
}

// P8.4: a string that is too long, before a list or a log that is full.
func TestAppendTooLong(t *testing.T) {
	long := strings.Repeat("x", 2001)
	for _, d := range []api.Disk{holding(510), holding(1), holding(1, "0123456789abc"), holding(510, make([]string, 500)...)} {
		refusesAppend(t, d, long, api.ErrArg)
		refusesAppend(t, armed(d, 0), long, api.ErrArg)
		refusesAppend(t, d, strings.Repeat("é", 1001), api.ErrArg)
		refusesAppend(t, d, strings.Repeat("x", 1<<16), api.ErrArg)
	}
	s := long[1:]
	checkAppend(t, holding(510), s, up(head(0), head(2005), 510, code(s)), api.OK)
	refusesAppend(t, holding(125), s, api.ErrFull)
	checkAppend(t, holding(126), s, up(head(0), head(2005), 126, code(s)), api.OK)
	s = strings.Repeat("é", 1000)
	checkAppend(t, holding(510), s, up(head(0), head(2005), 510, code(s)), api.OK)
}

// P8.4: a list that is full, however long the log is.
func TestAppendFullList(t *testing.T) {
	for _, n := range []int{63, 510} {
		d := holding(n, make([]string, 499)...)
		d, e := journal.Append(d, "")
		checkDisk(t, "Append", d, e, up(head(998), head(1000), n, strings.Repeat("0;", 500)), api.OK)
		refusesAppend(t, d, "", api.ErrFull)
		refusesAppend(t, d, "a", api.ErrFull)
		refusesAppend(t, armed(d, 0), "", api.ErrFull)
		holds(t, "a full list", d, make([]string, 500)...)
	}
}

// P8.4: a log that is full: the encodings fit to the last byte, and no further.
func TestAppendFullLog(t *testing.T) {
	for n := 1; n <= 5; n++ {
		for _, before := range lists(16 * n) {
			if len(before) > 16*n {
				continue
			}
			d := up("", head(len(before)), n, before)
			for size := range 16*n + 1 {
				s := strings.Repeat("b", size)
				text := before + code(s)
				if len(text) > 16*n {
					refusesAppend(t, d, s, api.ErrFull)
					refusesAppend(t, armed(d, 0), s, api.ErrFull)
				} else {
					checkAppend(t, d, s, up(head(len(text)), head(len(before)), n, text), api.OK)
				}
			}
		}
	}
}

// P8.4: the disk on which the power fails comes with ErrDown; the log is flushed before the header.
func TestAppendDown(t *testing.T) {
	const (
		before = "10;0123456789" // 13 bytes
		s      = "abcdefghijklmnopqrstu"
		zeros  = "\x00\x00\x00\x00\x00\x00\x00\x00\x00\x00\x00"
	)
	z := strings.Repeat("z", 64)
	other := "ABCDEFGHIJKLMNOP"
	d := up(head(13), other, 4, before+z[13:])
	for left, want := range []api.Disk{
		up(head(13), other, 4, before+z[13:]),
		up(head(13), other, 4, before+"21;"+"abcdefgh"+z[24:]),
		up(head(13), other, 4, before+"21;"+s+zeros[:3]+z[40:]),
		up(head(13), "00000037IJKLMNOP", 4, before+"21;"+s+zeros+z[48:]),
	} {
		checkAppend(t, armed(d, left), s, down(want), api.ErrDown)
		holds(t, fmt.Sprintf("Arm(%d)", left), want, "0123456789")
	}
	done := up(head(13), head(37), 4, before+"21;"+s+zeros+z[48:])
	checkAppend(t, armed(d, 4), s, armed(done, 0), api.OK)
	checkAppend(t, armed(d, 5), s, armed(done, 1), api.OK)
	checkAppend(t, armed(d, 512), s, armed(done, 508), api.OK)
	checkAppend(t, d, s, done, api.OK)
}

// P8.2 to P8.4: the chapter's examples.
func TestExamples(t *testing.T) {
	d, _ := disk.New(5)
	refusesAll(t, "New(5)", d, api.ErrJournal)
	d, _ = journal.Format(d)
	d, _ = journal.Append(d, "ab")
	d, _ = journal.Append(d, "")
	holds(t, "the first example", d, "ab", "")
	if !strings.HasPrefix(d.Sectors[2], "2;ab0;") {
		t.Errorf("the log begins with %q", d.Sectors[2])
	}
	for left, want := range [][]string{{"ab", ""}, {"ab", ""}, {"ab", "", "c"}} {
		x, _ := disk.Arm(d, left)
		x, e := journal.Append(x, "c")
		if (e == api.OK) != (left == 2) || left < 2 && e != api.ErrDown {
			t.Errorf("Arm(%d): Append = %d", left, e)
		}
		if e == api.ErrDown {
			x, _ = disk.Start(x)
		}
		holds(t, fmt.Sprintf("Arm(%d)", left), x, want...)
	}
}
