package disk_test

import (
	"bytes"
	"fmt"
	"math"
	"math/rand"
	"testing"

	"dumbwaiter/api"
	"dumbwaiter/disk"
)

// stands: does a disk tell these bytes, so many of them durable, and so many calls? Asked twice, as asking changes nothing.
func stands(t *testing.T, what string, d *disk.Disk, all string, sure, ops int) {
	t.Helper()
	for range 2 {
		if p := d.Read(); string(p) != all || d.Len() != len(all) {
			t.Errorf("%s: Read = %q, Len = %d, want %q", what, p, d.Len(), all)
		}
		if d.Sure() != sure {
			t.Errorf("%s: Sure = %d, want %d", what, d.Sure(), sure)
		}
		if d.Ops() != ops {
			t.Errorf("%s: Ops = %d, want %d", what, d.Ops(), ops)
		}
	}
}

// fine: did a call answer OK?
func fine(t *testing.T, e api.Errno) {
	t.Helper()
	if e != api.OK {
		t.Errorf("answered %d", e)
	}
}

// laid: a disk with these bytes durable, and those that wait behind them; three calls.
func laid(t *testing.T, sure, wait string) *disk.Disk {
	t.Helper()
	d := disk.New()
	fine(t, d.Append([]byte(sure)))
	fine(t, d.Sync())
	fine(t, d.Append([]byte(wait)))
	stands(t, "laid", d, sure+wait, len(sure), 3)
	return d
}

// P7.1: New, Append, Sync: bytes stand behind others and wait, till all are durable.
func TestAppendWaitsTillSync(t *testing.T) {
	d := disk.New()
	if d == nil {
		t.Fatal("no disk")
	}
	stands(t, "new", d, "", 0, 0)
	fine(t, d.Append([]byte("abc")))
	stands(t, "abc waits", d, "abc", 0, 1)
	fine(t, d.Append([]byte("de")))
	stands(t, "de behind it", d, "abcde", 0, 2)
	fine(t, d.Sync())
	stands(t, "durable", d, "abcde", 5, 3)
	fine(t, d.Append([]byte{0, 255}))
	stands(t, "two wait", d, "abcde\x00\xff", 5, 4)
	fine(t, d.Sync())
	fine(t, d.Sync())
	stands(t, "durable, twice", d, "abcde\x00\xff", 7, 6)
}

// P7.1: Put: in the place of all, whether that was durable or waited, and durable at once.
func TestPutInThePlaceOfAll(t *testing.T) {
	for _, p := range []string{"", "x", "new", "as long", "longer than all that was there"} {
		d := disk.New()
		fine(t, d.Put([]byte(p)))
		stands(t, "on an empty one", d, p, len(p), 1)

		d = laid(t, "abcd", "efg")
		fine(t, d.Put([]byte(p)))
		stands(t, "on durable ones and others", d, p, len(p), 4)
		d.Crash(0)
		stands(t, "a crash behind it", d, p, len(p), 4)

		fine(t, d.Append([]byte("yz")))
		stands(t, "behind it", d, p+"yz", len(p), 5)
		d.Crash(1)
		stands(t, "one kept behind it", d, p+"y", len(p)+1, 5)
		fine(t, d.Put([]byte(p)))
		fine(t, d.Put([]byte("q")))
		stands(t, "Put behind Put", d, "q", 1, 7)
	}
}

// P7.1: Crash keeps none, some, just all, or more than what waits; none below 0. It is none of Ops.
func TestCrashKeeps(t *testing.T) {
	for _, c := range []struct {
		keep int
		left string
	}{
		{math.MinInt, ""}, {math.MinInt + 1, ""}, {-4, ""}, {-3, ""}, {-1, ""}, {0, ""},
		{1, "d"}, {2, "de"}, {3, "def"}, {4, "defg"},
		{5, "defg"}, {7, "defg"}, {8, "defg"}, {math.MaxInt32, "defg"}, {math.MaxInt - 3, "defg"}, {math.MaxInt, "defg"},
	} {
		for _, sure := range []string{"", "abc"} {
			what := fmt.Sprintf("%q, Crash(%d)", sure, c.keep)
			d := laid(t, sure, "defg")
			d.Crash(c.keep)
			now := sure + c.left
			stands(t, what, d, now, len(now), 3)
			fine(t, d.Append([]byte("xy")))
			stands(t, what+", then others", d, now+"xy", len(now), 4)
			d.Crash(-1)
			stands(t, what+", and they are gone", d, now, len(now), 4)
		}
	}
}

// P7.1: behind a Sync, a Put or another crash nothing waits, so that a crash takes nothing, and brings nothing back.
func TestCrashWhereNothingWaits(t *testing.T) {
	for _, keep := range []int{math.MinInt, -1, 0, 1, 3, 100, math.MaxInt} {
		d := disk.New()
		d.Crash(keep)
		stands(t, "new", d, "", 0, 0)

		d = laid(t, "abc", "defg")
		fine(t, d.Sync())
		d.Crash(keep)
		stands(t, "behind a Sync", d, "abcdefg", 7, 4)

		d = laid(t, "abc", "defg")
		fine(t, d.Put([]byte("new")))
		d.Crash(keep)
		stands(t, "behind a Put", d, "new", 3, 4)

		for kept, left := range []string{"abc", "abcd", "abcde"} {
			d = laid(t, "abc", "defg")
			d.Crash(kept)
			d.Crash(keep)
			stands(t, "behind a crash", d, left, len(left), 3)
			fine(t, d.Sync())
			stands(t, "a Sync behind it", d, left, len(left), 4)
		}
	}
}

// P7.1: what waits is counted over all that was appended, not by calls of Append.
func TestCrashOverManyAppends(t *testing.T) {
	for keep := range 8 {
		d := laid(t, "s", "ab")
		fine(t, d.Append(nil))
		fine(t, d.Append([]byte("c")))
		fine(t, d.Append([]byte("def")))
		d.Crash(keep)
		left := "s" + "abcdef"[:min(keep, 6)]
		stands(t, fmt.Sprintf("Crash(%d)", keep), d, left, len(left), 6)
	}
}

// P7.1: no bytes at all are a call too; nil and empty are the same.
func TestNoBytes(t *testing.T) {
	for _, none := range [][]byte{nil, {}} {
		d := disk.New()
		fine(t, d.Append(none))
		stands(t, "Append", d, "", 0, 1)
		fine(t, d.Sync())
		stands(t, "Sync", d, "", 0, 2)
		fine(t, d.Put(none))
		stands(t, "Put", d, "", 0, 3)

		d = laid(t, "ab", "c")
		fine(t, d.Append(none))
		stands(t, "Append behind others", d, "abc", 2, 4)
		fine(t, d.Put(none))
		stands(t, "Put in the place of others", d, "", 0, 5)
		fine(t, d.Append([]byte("x")))
		stands(t, "Append behind that", d, "x", 0, 6)
		d.Crash(0)
		stands(t, "nothing is left", d, "", 0, 6)
	}
}

// P7.1: the examples of the chapter, and of the whole.
func TestExamples(t *testing.T) {
	d := laid(t, "abc", "de")
	d.Crash(1)
	stands(t, "Append(abc), Sync, Append(de), Crash(1)", d, "abcd", 4, 3)
}

// P1, P7.1: a nil disk: ErrNone, 0, none.
func TestNil(t *testing.T) {
	var d *disk.Disk
	for _, p := range [][]byte{nil, {}, []byte("abc")} {
		for name, e := range map[string]api.Errno{"Append": d.Append(p), "Sync": d.Sync(), "Put": d.Put(p)} {
			if e != api.ErrNone {
				t.Errorf("%s = %d", name, e)
			}
		}
		for _, keep := range []int{math.MinInt, -1, 0, 1, math.MaxInt} {
			d.Crash(keep)
		}
		stands(t, "nil", d, "", 0, 0)
	}
}

// The rule of memory: what was handed in isn't changed, and may be written over.
func TestHandedInMayBeWrittenOver(t *testing.T) {
	spoil := func(p []byte, want string) {
		t.Helper()
		if string(p) != want {
			t.Errorf("what was handed in is %q, was %q", p, want)
		}
		whole := p[:cap(p)]
		for i := range whole {
			whole[i] = '!'
		}
	}
	room := func(s string) []byte { return append(make([]byte, 0, 64), s...) }

	d := disk.New()
	first := room("abc")
	fine(t, d.Append(first))
	behind := room("de")
	fine(t, d.Append(behind)) // into first's room, had the disk kept it
	spoil(first, "abc")
	spoil(behind, "de")
	stands(t, "Append", d, "abcde", 0, 2)

	put := room("new")
	fine(t, d.Put(put))
	fine(t, d.Append([]byte("xy")))
	if got := string(put[:5]); got != "new\x00\x00" {
		t.Errorf("behind what was put stands %q", got)
	}
	spoil(put, "new")
	stands(t, "Put", d, "newxy", 3, 4)
	d.Crash(1)
	stands(t, "Put, Crash", d, "newx", 4, 4)
}

// The rule of memory: what was answered may be written over, and grown; nor does it change by what comes later.
func TestAnsweredMayBeWrittenOver(t *testing.T) {
	d := laid(t, "abc", "defg")
	p, q := d.Read(), d.Read()
	whole := append(p, "behind"...)
	clear(whole[:cap(whole)])
	clear(p[:cap(p)])
	if string(q) != "abcdefg" {
		t.Errorf("two answers share bytes: %q", q)
	}
	stands(t, "written over", d, "abcdefg", 3, 3)

	d.Crash(1)
	fine(t, d.Append([]byte("XYZ")))
	fine(t, d.Append(d.Read()))
	stands(t, "its own answer behind it", d, "abcdXYZabcdXYZ", 4, 5)
	fine(t, d.Put([]byte("~~~~~~~")))
	if string(q) != "abcdefg" {
		t.Errorf("an answer has changed: %q", q)
	}
	fine(t, d.Put(d.Read()[2:5]))
	stands(t, "a piece of its own answer", d, "~~~", 3, 7)

	cut := laid(t, "abc", "defg")
	cut.Crash(0)
	r := cut.Read()
	clear(r[:cap(r)])
	fine(t, cut.Append([]byte("h")))
	stands(t, "an answer behind a crash", cut, "abch", 3, 4)
}

// P2: disks are apart from one another.
func TestDisksAreApart(t *testing.T) {
	p := []byte("abc")
	a, b := disk.New(), disk.New()
	fine(t, a.Append(p))
	fine(t, b.Put(p))
	fine(t, a.Append([]byte("x")))
	fine(t, b.Append([]byte("y")))
	b.Crash(0)
	stands(t, "a", a, "abcx", 0, 2)
	stands(t, "b", b, "abc", 3, 2)
}

// P7.1, P1: a megabyte, and a crash within it.
func TestGreat(t *testing.T) {
	d := disk.New()
	piece := bytes.Repeat([]byte("0123456789abcdef"), 64)
	var all []byte
	for range 1024 {
		fine(t, d.Append(piece))
		all = append(all, piece...)
	}
	if !bytes.Equal(d.Read(), all) || d.Len() != 1<<20 || d.Sure() != 0 || d.Ops() != 1024 {
		t.Fatalf("%d bytes, %d durable, %d calls", d.Len(), d.Sure(), d.Ops())
	}
	d.Crash(1<<19 + 1)
	stands(t, "half of it", d, string(all[:1<<19+1]), 1<<19+1, 1024)
}

// cell is a byte of a plain model: it is durable, or waits.
type cell struct {
	b    byte
	sure bool
}

// model is a disk in the chapter's words, byte by byte.
type model struct {
	cells []cell
	ops   int
}

func (m *model) lay(p []byte, sure bool) {
	m.ops++
	for _, b := range p {
		m.cells = append(m.cells, cell{b, sure})
	}
}

func (m *model) sync() {
	m.ops++
	for i := range m.cells {
		m.cells[i].sure = true
	}
}

func (m *model) crash(keep int) {
	var left []cell
	for _, c := range m.cells {
		if !c.sure {
			if keep <= 0 {
				continue
			}
			keep--
		}
		left = append(left, cell{c.b, true})
	}
	m.cells = left
}

func (m *model) tells() (all string, sure, ops int) {
	var p []byte
	for _, c := range m.cells {
		p = append(p, c.b)
		if c.sure {
			sure++
		}
	}
	return string(p), sure, m.ops
}

// P7.1, P2: calls drawn by lot, held against a plain model; of two disks both tell the same, though what one is handed, and answers, is written over.
func TestByLot(t *testing.T) {
	g := rand.New(rand.NewSource(7))
	for range 40 {
		d, k, m := disk.New(), disk.New(), &model{}
		for step := range 200 {
			p := make([]byte, g.Intn(9))
			g.Read(p)
			what := fmt.Sprintf("step %d", step)
			switch n := g.Intn(20); {
			case n < 10:
				fine(t, d.Append(bytes.Clone(p)))
				m.lay(p, false)
				fine(t, k.Append(p))
			case n < 14:
				fine(t, d.Sync())
				fine(t, k.Sync())
				m.sync()
			case n < 15:
				fine(t, d.Put(bytes.Clone(p)))
				m.cells = nil
				m.lay(p, true)
				fine(t, k.Put(p))
			default:
				keep := g.Intn(24) - 4
				d.Crash(keep)
				k.Crash(keep)
				m.crash(keep)
			}
			clear(p)
			clear(k.Read())
			all, sure, ops := m.tells()
			stands(t, what, d, all, sure, ops)
			stands(t, what+", written over", k, all, sure, ops)
			if t.Failed() {
				t.FailNow()
			}
		}
	}
}
