package disk_test

import (
	"math"
	"reflect"
	"slices"
	"strings"
	"testing"

	"allonge/api"
	"allonge/disk"
)

// The Left of a disk whose power does not fail.
const unlimited = -1

// full returns a text with bytes 0 after it, up to the size of a sector.
func full(s string) string {
	return s + strings.Repeat("\x00", 16-len(s))
}

// sectors returns sectors that begin with these texts.
func sectors(texts ...string) []string {
	var l []string
	for _, s := range texts {
		l = append(l, full(s))
	}
	return l
}

// put is a pending write of a text.
func put(at int, s string) api.Write {
	return api.Write{At: at, Text: full(s)}
}

// up returns a disk with these sectors and nothing pending.
func up(texts ...string) api.Disk {
	return api.Disk{Sectors: sectors(texts...), Left: unlimited}
}

// down returns the same disk, without power.
func down(texts ...string) api.Disk {
	d := up(texts...)
	d.Down = true
	return d
}

// with returns a disk with further pending writes.
func with(d api.Disk, writes ...api.Write) api.Disk {
	d.Pending = slices.Concat(d.Pending, writes)
	return d
}

// armed returns a disk with this Left.
func armed(d api.Disk, left int) api.Disk {
	d.Left = left
	return d
}

// same reports whether two disks are equal; a list without elements may be nil.
func same(a, b api.Disk) bool {
	return slices.Equal(a.Sectors, b.Sectors) && slices.Equal(a.Pending, b.Pending) && a.Left == b.Left && a.Down == b.Down
}

// copied returns a disk that is the same and shares nothing.
func copied(d api.Disk) api.Disk {
	d.Sectors = slices.Clone(d.Sectors)
	d.Pending = slices.Clone(d.Pending)
	return d
}

func checkDisk(t *testing.T, call string, got api.Disk, e api.Errno, want api.Disk, wantErr api.Errno) {
	t.Helper()
	if !same(got, want) || e != wantErr {
		t.Errorf("%s = %#v, %d, want %#v, %d", call, got, e, want, wantErr)
	}
}

// fails checks that a call had an error, and no other result.
func fails(t *testing.T, call string, got api.Disk, e, want api.Errno) {
	t.Helper()
	if !reflect.DeepEqual(got, api.Disk{}) || e != want {
		t.Errorf("%s = %#v, %d, want nothing and %d", call, got, e, want)
	}
}

func checkCheck(t *testing.T, d api.Disk, want api.Errno) {
	t.Helper()
	if e := disk.Check(d); e != want {
		t.Errorf("Check(%#v) = %d, want %d", d, e, want)
	}
}

func checkRead(t *testing.T, d api.Disk, at int, want string, wantErr api.Errno) {
	t.Helper()
	if s, e := disk.Read(d, at); s != want || e != wantErr {
		t.Errorf("Read(%#v, %d) = %q, %d, want %q, %d", d, at, s, e, want, wantErr)
	}
}

func checkWrite(t *testing.T, d api.Disk, at int, s string, want api.Disk, wantErr api.Errno) {
	t.Helper()
	got, e := disk.Write(d, at, s)
	checkDisk(t, "Write", got, e, want, wantErr)
}

func checkFlush(t *testing.T, d, want api.Disk, wantErr api.Errno) {
	t.Helper()
	got, e := disk.Flush(d)
	checkDisk(t, "Flush", got, e, want, wantErr)
}

func checkArm(t *testing.T, d api.Disk, left int, want api.Disk, wantErr api.Errno) {
	t.Helper()
	got, e := disk.Arm(d, left)
	checkDisk(t, "Arm", got, e, want, wantErr)
}

func checkCut(t *testing.T, d, want api.Disk, wantErr api.Errno) {
	t.Helper()
	got, e := disk.Cut(d)
	checkDisk(t, "Cut", got, e, want, wantErr)
}

func checkStart(t *testing.T, d, want api.Disk, wantErr api.Errno) {
	t.Helper()
	got, e := disk.Start(d)
	checkDisk(t, "Start", got, e, want, wantErr)
}

// P7.1: a new disk is up, empty and not armed, and has as many sectors as are asked for.
func TestNew(t *testing.T) {
	for _, n := range []int{1, 2, 3, 16, 17, 511, 512} {
		d, e := disk.New(n)
		checkDisk(t, "New", d, e, up(make([]string, n)...), api.OK)
		checkCheck(t, d, api.OK)
		checkRead(t, d, n-1, full(""), api.OK)
		checkRead(t, d, n, "", api.ErrArg)
	}
	for _, n := range []int{0, -1, -2, -512, 513, 514, 1024, 1 << 20, 1 << 32, 1<<32 + 1, math.MinInt, math.MaxInt} {
		d, e := disk.New(n)
		fails(t, "New", d, e, api.ErrArg)
	}
}

// A disk that is not right is wrong for one reason.
func wrongDisks() map[string]api.Disk {
	many := make([]api.Write, 513)
	for i := range many {
		many[i] = put(0, "a")
	}
	return map[string]api.Disk{
		"no value":                  {},
		"no sectors":                {Left: unlimited},
		"no sectors, but a list":    {Sectors: []string{}, Left: unlimited},
		"no sectors, and down":      {Left: unlimited, Down: true},
		"too many sectors":          up(make([]string, 513)...),
		"many sectors too many":     up(make([]string, 2000)...),
		"an empty sector":           {Sectors: []string{""}, Left: unlimited},
		"a short sector":            {Sectors: []string{full("")[1:]}, Left: unlimited},
		"a long sector":             {Sectors: []string{full("") + "\x00"}, Left: unlimited},
		"a short first sector":      {Sectors: []string{"a", full("")}, Left: unlimited},
		"a long last sector":        {Sectors: []string{full(""), full(""), full("") + "a"}, Left: unlimited},
		"a wrong sector, and down":  {Sectors: []string{"a"}, Left: unlimited, Down: true},
		"too many writes":           with(up(""), many...),
		"a write before sector 0":   with(up("", ""), put(-1, "a")),
		"a write after all sectors": with(up("", ""), put(2, "a")),
		"a write far off":           with(up("", ""), put(math.MinInt, "a")),
		"a last write far off":      with(up("", ""), put(0, "a"), put(math.MaxInt, "a")),
		"an empty write":            with(up(""), api.Write{}),
		"a short write":             with(up(""), api.Write{Text: full("")[1:]}),
		"a long write":              with(up(""), put(0, "a"), api.Write{Text: full("") + "\x00"}),
		"a short Left":              armed(up(""), -2),
		"a very short Left":         armed(up(""), math.MinInt),
		"a long Left":               armed(up(""), 513),
		"a very long Left":          armed(up(""), math.MaxInt),
		"a Left out of range, down": armed(down(""), -2),
		"down and armed with 0":     armed(down(""), 0),
		"down and armed":            armed(down("", "b"), 512),
		"down, with a write":        with(down(""), put(0, "a")),
		"down, with wrong writes":   with(down(""), put(1, "a")),
	}
}

// P7.1: which disks are right.
func TestCheck(t *testing.T) {
	many := make([]api.Write, 512)
	for i := range many {
		many[i] = put(511-i, "a")
	}
	large := up(make([]string, 512)...)
	for _, d := range []api.Disk{
		up(""), up("a"), up("a", "0123456789abcdef"), down("a"), down("a", ""), large, with(large, many...), armed(with(large, many...), 0), armed(with(large, many...), 512),
		armed(up(""), 0), armed(up(""), 1), armed(up(""), 512), with(up(""), many[511:]...), armed(with(up(""), put(0, "a"), put(0, "b")), 1),
		{Sectors: []string{"\xff\xfe\x80\x00\xc3\xff\xff\xff\xff\xff\xff\xff\xff\xff\xff\xff"}, Pending: []api.Write{}, Left: unlimited},
		{Sectors: []string{strings.Repeat("€", 5) + "!"}, Left: unlimited}, {Sectors: sectors(""), Pending: []api.Write{}, Left: unlimited, Down: true},
	} {
		checkCheck(t, d, api.OK)
	}
	for name, d := range wrongDisks() {
		if e := disk.Check(d); e != api.ErrArg {
			t.Errorf("Check of %s = %d", name, e)
		}
	}
	// A sector's size is counted in bytes.
	checkCheck(t, api.Disk{Sectors: []string{strings.Repeat("é", 16)}, Left: unlimited}, api.ErrArg)
	checkCheck(t, api.Disk{Sectors: []string{strings.Repeat("é", 8)}, Left: unlimited}, api.OK)
}

// P7.2: no other function takes a disk that is not right, whatever the other arguments.
func TestWrongDisks(t *testing.T) {
	for name, d := range wrongDisks() {
		for _, at := range []int{-1, 0, 1, 512} {
			if s, e := disk.Read(d, at); s != "" || e != api.ErrArg {
				t.Errorf("Read of %s = %q, %d", name, s, e)
			}
			for _, s := range []string{"", "a", strings.Repeat("a", 17)} {
				x, e := disk.Write(d, at, s)
				fails(t, "Write, "+name, x, e, api.ErrArg)
			}
			x, e := disk.Arm(d, at)
			fails(t, "Arm, "+name, x, e, api.ErrArg)
		}
		x, e := disk.Flush(d)
		fails(t, "Flush, "+name, x, e, api.ErrArg)
		x, e = disk.Cut(d)
		fails(t, "Cut, "+name, x, e, api.ErrArg)
		x, e = disk.Start(d)
		fails(t, "Start, "+name, x, e, api.ErrArg)
	}
}

// P7.2: a disk that is down only starts, whatever the other arguments.
func TestDown(t *testing.T) {
	for _, d := range []api.Disk{down(""), down("a", "b"), down(make([]string, 512)...)} {
		for _, at := range []int{-1, 0, 1, 512, 513} {
			checkRead(t, d, at, "", api.ErrDown)
			for _, s := range []string{"", "a", strings.Repeat("a", 17)} {
				x, e := disk.Write(d, at, s)
				fails(t, "Write", x, e, api.ErrDown)
			}
			x, e := disk.Arm(d, at)
			fails(t, "Arm", x, e, api.ErrDown)
		}
		x, e := disk.Flush(d)
		fails(t, "Flush", x, e, api.ErrDown)
		x, e = disk.Cut(d)
		fails(t, "Cut", x, e, api.ErrDown)
		checkCheck(t, d, api.OK)
	}
}

// P7.2: the text of the last write that is pending for the sector, or the sector.
func TestRead(t *testing.T) {
	d := with(up("a", "b", "c"), put(2, "d"), put(0, "e"), put(2, "f"), put(2, ""), put(0, "g"))
	checkRead(t, d, 0, full("g"), api.OK)
	checkRead(t, d, 1, full("b"), api.OK)
	checkRead(t, d, 2, full(""), api.OK)
	// Whether the power is about to fail does not matter.
	checkRead(t, armed(d, 0), 0, full("g"), api.OK)
	checkRead(t, armed(d, 2), 1, full("b"), api.OK)
	for _, at := range []int{-1, -2, 3, 4, 512, 1 << 32, math.MinInt, math.MaxInt} {
		checkRead(t, d, at, "", api.ErrArg)
		checkRead(t, up("a", "b", "c"), at, "", api.ErrArg)
	}
	checkRead(t, up("0123456789abcdef"), 0, "0123456789abcdef", api.OK)
	checkRead(t, with(up("0123456789abcdef"), put(0, "x")), 0, full("x"), api.OK)
}

// P7.2: a further write is pending after the others, filled up with bytes 0.
func TestWrite(t *testing.T) {
	d := up("a", "b")
	for n := range 17 {
		s := "0123456789abcdef"[:n]
		checkWrite(t, d, 0, s, with(d, api.Write{At: 0, Text: s + strings.Repeat("\x00", 16-n)}), api.OK)
		checkWrite(t, with(d, put(1, "c")), 1, s, with(d, put(1, "c"), put(1, s)), api.OK)
	}
	checkWrite(t, armed(d, 0), 1, "c", with(armed(d, 0), put(1, "c")), api.OK)
	checkWrite(t, armed(with(d, put(0, "c")), 1), 0, "c", armed(with(d, put(0, "c"), put(0, "c")), 1), api.OK)
	checkWrite(t, d, 1, "\xff\x00é\n", with(d, put(1, "\xff\x00é\n")), api.OK)
	for _, at := range []int{-1, -2, 2, 3, 512, 1 << 32, math.MinInt, math.MaxInt} {
		x, e := disk.Write(d, at, "c")
		fails(t, "Write", x, e, api.ErrArg)
	}
	for _, s := range []string{"0123456789abcdefg", full("") + "\x00", strings.Repeat("é", 9), strings.Repeat("a", 1<<16)} {
		x, e := disk.Write(d, 0, s)
		fails(t, "Write", x, e, api.ErrArg)
	}
}

// P7.2: 512 writes are pending at most; what is no argument is refused first.
func TestWriteFull(t *testing.T) {
	d := up("a", "b")
	var e api.Errno
	for i := range 512 {
		if d, e = disk.Write(d, i%2, "c"); e != api.OK || len(d.Pending) != i+1 {
			t.Fatalf("write %d: %d, %d writes", i, e, len(d.Pending))
		}
	}
	for _, left := range []int{unlimited, 0, 512} {
		x, e := disk.Write(armed(d, left), 1, "d")
		fails(t, "Write", x, e, api.ErrFull)
		x, e = disk.Write(armed(d, left), 2, "d")
		fails(t, "Write", x, e, api.ErrArg)
		x, e = disk.Write(armed(d, left), 0, "0123456789abcdefg")
		fails(t, "Write", x, e, api.ErrArg)
	}
	d, e = disk.Flush(d)
	checkDisk(t, "Flush", d, e, up("c", "c"), api.OK)
	checkWrite(t, d, 1, "d", with(up("c", "c"), put(1, "d")), api.OK)
}

// P7.2: so many writes are still performed, also where another number was set before.
func TestArm(t *testing.T) {
	d := with(up("a", "b"), put(0, "c"), put(1, "d"))
	for _, left := range []int{0, 1, 2, 3, 511, 512} {
		for _, before := range []int{unlimited, 0, 5, 512} {
			checkArm(t, armed(d, before), left, armed(d, left), api.OK)
			checkArm(t, armed(up("a"), before), left, armed(up("a"), left), api.OK)
		}
	}
	for _, left := range []int{-1, -2, 513, 1024, 1 << 32, math.MinInt, math.MaxInt} {
		x, e := disk.Arm(d, left)
		fails(t, "Arm", x, e, api.ErrArg)
		x, e = disk.Arm(armed(d, 3), left)
		fails(t, "Arm", x, e, api.ErrArg)
	}
}

// P7.2: what is pending is lost, and nothing is torn.
func TestCut(t *testing.T) {
	checkCut(t, up("a"), down("a"), api.OK)
	checkCut(t, with(up("a", "b"), put(0, "c"), put(1, "d")), down("a", "b"), api.OK)
	checkCut(t, armed(up("a", "b"), 0), down("a", "b"), api.OK)
	checkCut(t, armed(with(up("a", "b"), put(0, "c")), 512), down("a", "b"), api.OK)
}

// P7.2: a disk that is down is up again, not armed, with the same sectors.
func TestStart(t *testing.T) {
	checkStart(t, down("a"), up("a"), api.OK)
	checkStart(t, down("a", "0123456789abcdef"), up("a", "0123456789abcdef"), api.OK)
	for _, d := range []api.Disk{up("a"), armed(up("a"), 0), with(up("a"), put(0, "b")), armed(with(up("a"), put(0, "b")), 1)} {
		x, e := disk.Start(d)
		fails(t, "Start", x, e, api.ErrState)
	}
}

// P7.3: with enough left, all writes are performed in their order.
func TestFlush(t *testing.T) {
	d := with(up("a", "b", "c"), put(2, "d"), put(0, "e"), put(2, "f"), put(0, ""))
	flushed := up("", "b", "f")
	checkFlush(t, d, flushed, api.OK)
	checkFlush(t, armed(d, 4), armed(flushed, 0), api.OK)
	checkFlush(t, armed(d, 5), armed(flushed, 1), api.OK)
	checkFlush(t, armed(d, 512), armed(flushed, 508), api.OK)
	for _, left := range []int{unlimited, 0, 1, 512} {
		checkFlush(t, armed(up("a", "b"), left), armed(up("a", "b"), left), api.OK)
	}
	checkFlush(t, with(up("0123456789abcdef"), put(0, "x")), up("x"), api.OK)
}

// P7.3: with too few left, the first ones are performed, the next one is torn, and the rest is lost.
func TestFlushTears(t *testing.T) {
	d := with(up("aaaaaaaaaaaaaaaa", "b", "cccccccccc"), put(2, "d"), put(0, "0123456789"), put(0, "ABCDEFGHIJKLMNOP"), put(1, "12345678901234"))
	checkFlush(t, armed(d, 0), down("aaaaaaaaaaaaaaaa", "b", "d\x00\x00\x00\x00\x00\x00\x00cc"), api.ErrDown)
	checkFlush(t, armed(d, 1), down("01234567aaaaaaaa", "b", "d"), api.ErrDown)
	checkFlush(t, armed(d, 2), down("ABCDEFGH89", "b", "d"), api.ErrDown)
	checkFlush(t, armed(d, 3), down("ABCDEFGHIJKLMNOP", "12345678", "d"), api.ErrDown)
	checkFlush(t, armed(d, 4), armed(up("ABCDEFGHIJKLMNOP", "12345678901234", "d"), 0), api.OK)
	checkFlush(t, armed(with(up("a"), put(0, "01234567")), 0), down("01234567"), api.ErrDown)
	checkFlush(t, armed(with(up("\x00\x00\x00\x00\x00\x00\x00\x00abcdefgh"), put(0, "")), 0), down("\x00\x00\x00\x00\x00\x00\x00\x00abcdefgh"), api.ErrDown)
	many := make([]api.Write, 512)
	want := make([]string, 512)
	for i := range many {
		many[i] = put(i, "0123456789")
		want[i] = "0123456789"
	}
	want[511] = "01234567"
	checkFlush(t, armed(with(up(make([]string, 512)...), many...), 511), down(want...), api.ErrDown)
}

// P7.2, P7.3: the chapter's examples.
func TestExamples(t *testing.T) {
	d, _ := disk.New(2)
	d, _ = disk.Write(d, 0, "ab")
	d, _ = disk.Flush(d)
	d, _ = disk.Write(d, 0, "x")
	d, _ = disk.Cut(d)
	d, e := disk.Start(d)
	checkDisk(t, "the first example", d, e, up("ab", ""), api.OK)
	d, _ = disk.New(2)
	d, _ = disk.Write(d, 0, "0123456789")
	d, _ = disk.Write(d, 1, "y")
	d, _ = disk.Arm(d, 0)
	d, e = disk.Flush(d)
	checkDisk(t, "the flush of the second example", d, e, down("01234567", ""), api.ErrDown)
	d, e = disk.Start(d)
	checkDisk(t, "the second example", d, e, up("01234567", ""), api.OK)
}
