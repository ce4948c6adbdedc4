package disk_test

import (
	"math/rand"
	"slices"
	"strings"
	"testing"

	"allonge/api"
	"allonge/disk"
)

type dice struct{ *rand.Rand }

func newDice() dice {
	return dice{rand.New(rand.NewSource(7))}
}

// text returns a text of up to 16 bytes.
func (r dice) text() string {
	b := make([]byte, r.Intn(17))
	for i := range b {
		b[i] = byte(r.Intn(256))
	}
	return string(b)
}

// disk returns a disk that is up and right, with few sectors, so that writes meet.
func (r dice) disk() api.Disk {
	texts := make([]string, 1+r.Intn(4))
	for i := range texts {
		texts[i] = r.text()
	}
	d := up(texts...)
	for range r.Intn(6) {
		d = with(d, put(r.Intn(len(texts)), r.text()))
	}
	if r.Intn(2) == 0 {
		d.Left = r.Intn(8)
	}
	return d
}

// model is a disk by the definitions: what each sector and each byte of it would be.
type model struct {
	bytes   [][16]byte
	pending []api.Write
	left    int
	down    bool
}

func modelOf(d api.Disk) *model {
	m := &model{left: d.Left, down: d.Down, pending: slices.Clone(d.Pending)}
	for _, s := range d.Sectors {
		m.bytes = append(m.bytes, [16]byte([]byte(s)))
	}
	return m
}

func (m *model) disk() api.Disk {
	d := api.Disk{Pending: m.pending, Left: m.left, Down: m.down}
	for _, b := range m.bytes {
		d.Sectors = append(d.Sectors, string(b[:]))
	}
	return d
}

func (m *model) cut() {
	m.pending, m.left, m.down = nil, -1, true
}

// flush performs one write after the other, byte by byte, until nothing is left.
func (m *model) flush() api.Errno {
	for len(m.pending) > 0 {
		w := m.pending[0]
		n := 16
		if m.left == 0 {
			n = 8
		}
		for i := range n {
			m.bytes[w.At][i] = w.Text[i]
		}
		if m.left == 0 {
			m.cut()
			return api.ErrDown
		}
		if m.left > 0 {
			m.left--
		}
		m.pending = m.pending[1:]
	}
	return api.OK
}

// P7.2, P7.3: random calls change the disk as the definitions say.
func TestCallsByTheDefinition(t *testing.T) {
	r := newDice()
	for range 2000 {
		d := r.disk()
		m := modelOf(d)
		for range 30 {
			before := copied(d)
			var e, want api.Errno
			if m.down {
				d, e = disk.Start(d)
				m.down = false
			} else {
				switch r.Intn(8) {
				case 0:
					d, e = disk.Cut(d)
					m.cut()
				case 1:
					m.left = r.Intn(5)
					d, e = disk.Arm(d, m.left)
				case 2, 3:
					d, e = disk.Flush(d)
					want = m.flush()
				default:
					at, s := r.Intn(len(d.Sectors)), r.text()
					d, e = disk.Write(d, at, s)
					m.pending = append(m.pending, put(at, s))
				}
			}
			if e != want || !same(d, m.disk()) {
				t.Fatalf("after %#v: %#v, %d, want %#v, %d", before, d, e, m.disk(), want)
			}
			checkCheck(t, d, api.OK)
		}
	}
}

// P7.4: calls leave the disk that they are given as it is, and what they return shares no memory with it.
func TestDisksStay(t *testing.T) {
	r := newDice()
	calls := map[string]func(api.Disk) (api.Disk, api.Errno){
		"Flush":       disk.Flush,
		"Cut":         disk.Cut,
		"Start":       disk.Start,
		"Arm":         func(d api.Disk) (api.Disk, api.Errno) { return disk.Arm(d, 2) },
		"Write":       func(d api.Disk) (api.Disk, api.Errno) { return disk.Write(d, 0, "new") },
		"Write wrong": func(d api.Disk) (api.Disk, api.Errno) { return disk.Write(d, 9, "new") },
		"Check":       func(d api.Disk) (api.Disk, api.Errno) { return api.Disk{}, disk.Check(d) },
		"Read":        func(d api.Disk) (api.Disk, api.Errno) { _, e := disk.Read(d, 0); return api.Disk{}, e },
	}
	for range 500 {
		for name, call := range calls {
			d := r.disk()
			if r.Intn(4) == 0 {
				d = down("a", "0123456789abcdef")
			}
			// What lies beyond the lengths is neither read nor written.
			beyond := func(extra string) api.Disk {
				x := copied(d)
				x.Sectors = append(x.Sectors, extra)[:len(d.Sectors)]
				x.Pending = append(x.Pending, api.Write{At: 1 << 20, Text: extra})[:len(d.Pending)]
				return x
			}
			a, b := beyond("beyond"), beyond("")
			got, e := call(a)
			other, f := call(b)
			if e != f || !same(got, other) {
				t.Errorf("%s(%#v) reads beyond it", name, d)
			}
			if !same(a, d) || a.Sectors[:len(d.Sectors)+1][len(d.Sectors)] != "beyond" || a.Pending[:len(d.Pending)+1][len(d.Pending)].Text != "beyond" {
				t.Errorf("%s(%#v) leaves %#v", name, d, a)
			}
			clear(got.Sectors[:cap(got.Sectors)])
			clear(got.Pending[:cap(got.Pending)])
			if !same(a, d) || a.Sectors[:len(d.Sectors)+1][len(d.Sectors)] != "beyond" || a.Pending[:len(d.Pending)+1][len(d.Pending)].Text != "beyond" {
				t.Errorf("what %s(%#v) returns shares memory with it", name, d)
			}
			kept := copied(other)
			clear(b.Sectors)
			clear(b.Pending)
			if !same(other, kept) {
				t.Errorf("what %s(%#v) returned has changed with it", name, d)
			}
		}
	}
}

// P7.4: two disks that come from one do not share memory.
func TestBranches(t *testing.T) {
	d := with(up("a", "b"), put(0, "c"))
	x, _ := disk.Write(d, 0, "x")
	y, _ := disk.Write(d, 0, "y")
	checkRead(t, x, 0, full("x"), api.OK)
	checkRead(t, y, 0, full("y"), api.OK)
	x1, _ := disk.Write(x, 1, "x1")
	x2, _ := disk.Write(x, 1, "x2")
	checkRead(t, x1, 1, full("x1"), api.OK)
	checkRead(t, x2, 1, full("x2"), api.OK)
	flushed, _ := disk.Flush(x1)
	checkDisk(t, "Flush", flushed, api.OK, up("x", "x1"), api.OK)
	checkRead(t, x2, 0, full("x"), api.OK)
	checkDisk(t, "the first disk", d, api.OK, with(up("a", "b"), put(0, "c")), api.OK)
	a, _ := disk.New(2)
	b, _ := disk.New(2)
	a.Sectors[0] = "changed"
	checkDisk(t, "New", b, api.OK, up("", ""), api.OK)
}

// P7.5: what was written last is read, before and after a flush, and the other sectors are as before.
func TestLastWriteIsRead(t *testing.T) {
	r := newDice()
	for range 2000 {
		d := armed(r.disk(), unlimited)
		at, s := r.Intn(len(d.Sectors)), r.text()
		x, _ := disk.Write(d, at, s)
		flushed, e := disk.Flush(x)
		if e != api.OK {
			t.Fatal(e)
		}
		for i := range d.Sectors {
			want, _ := disk.Read(d, i)
			if i == at {
				want = full(s)
			}
			checkRead(t, x, i, want, api.OK)
			checkRead(t, flushed, i, want, api.OK)
		}
	}
}

// P7.5: what was flushed is there after a power failure, and what was not is lost.
func TestPowerFailure(t *testing.T) {
	r := newDice()
	for range 2000 {
		d := armed(r.disk(), unlimited)
		flushed, _ := disk.Flush(d)
		x := flushed
		for range r.Intn(5) {
			x, _ = disk.Write(x, r.Intn(len(x.Sectors)), r.text())
		}
		x, _ = disk.Cut(x)
		x, e := disk.Start(x)
		checkDisk(t, "Start", x, e, flushed, api.OK)
		x, _ = disk.Cut(d)
		x, e = disk.Start(x)
		checkDisk(t, "Start", x, e, up(unfilled(d.Sectors)...), api.OK)
	}
}

func unfilled(l []string) []string {
	texts := slices.Clone(l)
	for i, s := range texts {
		texts[i] = strings.TrimRight(s, "\x00")
	}
	return texts
}

// P7.6: after a failure each sector is as it was or as one of its writes says, but for one of which a half is new.
func TestFailureDuringFlush(t *testing.T) {
	r := newDice()
	for range 3000 {
		d := r.disk()
		for len(d.Pending) == 0 {
			d = r.disk()
		}
		d.Left = r.Intn(len(d.Pending))
		x, e := disk.Flush(d)
		if e != api.ErrDown || !x.Down {
			t.Fatalf("Flush(%#v) = %#v, %d", d, x, e)
		}
		halves := 0
		for i, s := range x.Sectors {
			var before []string // what the sector was, at one time or another
			before = append(before, d.Sectors[i])
			for _, w := range d.Pending {
				if w.At == i {
					before = append(before, w.Text)
				}
			}
			if slices.Contains(before, s) {
				continue
			}
			halves++
			if !isTorn(s, before) {
				t.Errorf("Flush(%#v): sector %d is %q", d, i, s)
			}
		}
		if halves > 1 {
			t.Errorf("Flush(%#v) tears %d sectors", d, halves)
		}
	}
}

// isTorn reports whether a sector begins as one state and ends as the one before it.
func isTorn(s string, states []string) bool {
	for i := 1; i < len(states); i++ {
		if s == states[i][:8]+states[i-1][8:] {
			return true
		}
	}
	return false
}

// P7.6: without a failure it makes no difference whether writes are flushed one by one or together.
func TestOneByOneOrTogether(t *testing.T) {
	r := newDice()
	for range 2000 {
		d := r.disk()
		if d.Left >= 0 {
			d.Left += len(d.Pending)
		}
		together, e := disk.Flush(d)
		if e != api.OK {
			t.Fatalf("Flush(%#v): %d", d, e)
		}
		one := copied(d)
		one.Pending = nil
		for _, w := range d.Pending {
			one, _ = disk.Write(one, w.At, strings.TrimRight(w.Text, "\x00"))
			if one, e = disk.Flush(one); e != api.OK {
				t.Fatalf("Flush of one of %#v: %d", d, e)
			}
		}
		checkDisk(t, "one by one", one, api.OK, together, api.OK)
	}
}
