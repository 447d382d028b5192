package locks_test

import (
	"bytes"
	"fmt"
	"math"
	"reflect"
	"testing"

	"dumbwaiter/api"
	"dumbwaiter/locks"
	"dumbwaiter/number"
)

const top = math.MaxUint64 // the greatest session, number and epoch there is

var (
	minusNought = math.Copysign(0, -1)
	low, high   = math.Inf(-1), math.Inf(1)
	nan         = math.NaN()
	otherNan    = math.Float64frombits(0xfff0000000000001)
)

// edges: the numbers that the order of layer 1 sets apart, rising.
func edges() []float64 {
	return []float64{low, -1, minusNought, 0, 1, math.Nextafter(1, 2), 2, high, nan}
}

func id(session, seq uint64) api.ID { return api.ID{Session: session, Seq: seq} }

func get(l ...float64) api.Hold { return api.Hold{Gets: l} }

func scan(l ...[2]float64) api.Hold { return api.Hold{Scans: l} }

func put(l ...float64) api.Hold { return api.Hold{Puts: l} }

// by: a hold as that of a transaction.
func by(session, seq uint64, h api.Hold) api.Hold {
	h.ID = id(session, seq)
	return h
}

// in: a hold as one of an epoch.
func in(epoch uint64, h api.Hold) api.Hold {
	h.Epoch = epoch
	return h
}

// numbers: numbers as their Ranks, so that what is no number is one.
func numbers(l []float64) []uint64 {
	out := []uint64{}
	for _, x := range l {
		out = append(out, number.Rank(x))
	}
	return out
}

// flat: a hold whose parts may be held against another's, without a call of the package.
func flat(h api.Hold) []any {
	spans := []uint64{}
	for _, s := range h.Scans {
		spans = append(spans, number.Rank(s[0]), number.Rank(s[1]))
	}
	return []any{h.ID, h.Epoch, numbers(h.Gets), spans, numbers(h.Puts), append([]byte{}, h.Data...)}
}

func alike(a, b api.Hold) bool { return reflect.DeepEqual(flat(a), flat(b)) }

// meet: do two holds meet, whichever goes first?
func meet(t *testing.T, what string, a, b api.Hold, want bool) {
	t.Helper()
	for range 2 {
		if locks.Meet(a, b) != want || locks.Meet(b, a) != want {
			t.Errorf("%s: Meet = %v, %v, want %v", what, locks.Meet(a, b), locks.Meet(b, a), want)
		}
	}
}

// P12.1: the chapter's example.
func TestExample(t *testing.T) {
	meet(t, "one writes 1, another one reads 0 to 2", put(1), scan([2]float64{0, 2}), true)
}

// P12.1: who writes meets who writes or reads; who reads doesn't meet who reads.
func TestMeet(t *testing.T) {
	meet(t, "nothing", api.Hold{}, api.Hold{}, false)
	meet(t, "writes and nothing", put(1, 2), api.Hold{}, false)
	meet(t, "both read", get(1), get(1), false)
	meet(t, "both read a span", scan([2]float64{0, 2}), scan([2]float64{0, 2}), false)
	meet(t, "one in a span of the other", get(1), scan([2]float64{0, 2}), false)
	meet(t, "both write", put(1), put(1), true)
	meet(t, "one reads", put(1), get(1), true)
	meet(t, "they write others", put(1), put(2), false)
	meet(t, "one reads others", put(1), get(2), false)
	meet(t, "the last of many write", put(1, 2, 3), put(4, 5, 3), true)
	meet(t, "the first of many", put(3, 1, 2), put(3, 4, 5), true)
	meet(t, "the last of many reads", put(1, 2, 3), get(4, 5, 3), true)
	meet(t, "the last of many spans", put(7, 3), scan([2]float64{0, 1}, [2]float64{8, 9}, [2]float64{2, 4}), true)
	meet(t, "none of many spans", put(7, 3), scan([2]float64{0, 1}, [2]float64{8, 9}, [2]float64{4, 6}), false)
	a := api.Hold{Gets: []float64{1}, Scans: [][2]float64{{10, 20}}, Puts: []float64{5}}
	b := api.Hold{Gets: []float64{1}, Scans: [][2]float64{{10, 20}}, Puts: []float64{6}}
	meet(t, "reads in common alone", a, b, false)
	b.Puts = append(b.Puts, 15)
	meet(t, "one writes in the other's span", a, b, true)
	b.Puts[1] = 1
	meet(t, "one writes what the other gets", a, b, true)
}

// P12.1: names, epochs and data do not matter to Meet; a hold that writes meets itself.
func TestMeetOfItself(t *testing.T) {
	for _, h := range []api.Hold{{}, get(1), scan([2]float64{0, 2}), {Gets: []float64{1}, Scans: [][2]float64{{0, 2}}, Data: []byte("x")}} {
		h = in(3, by(1, 2, h))
		meet(t, "who reads alone", h, h, false)
		h.Puts = []float64{9}
		meet(t, "who writes", h, h, true)
		other := in(4, by(7, 8, h))
		other.Data = []byte("other")
		meet(t, "by another name", h, other, true)
		other.Puts = []float64{8}
		meet(t, "writes another", h, other, false)
	}
}

// P12.1: numbers are held against each other by number.Same: both noughts are two, all that is no number is one.
func TestMeetAtEdges(t *testing.T) {
	l := edges()
	for i, x := range l {
		for j, y := range l {
			meet(t, fmt.Sprint("puts ", x, y), put(x), put(y), i == j)
			meet(t, fmt.Sprint("a get ", x, y), put(x), get(y), i == j)
			for k, z := range l {
				meet(t, fmt.Sprint("a span ", x, y, z), put(x), scan([2]float64{y, z}), j <= i && i <= k)
			}
		}
	}
	meet(t, "NaNs put", put(nan), put(otherNan), true)
	meet(t, "NaNs got", put(nan), get(otherNan), true)
	meet(t, "NaNs in a span", put(otherNan), scan([2]float64{nan, nan}), true)
	meet(t, "NaN behind all", put(otherNan), scan([2]float64{low, high}), false)
	meet(t, "to NaN", put(5), scan([2]float64{high, otherNan}, [2]float64{low, otherNan}), true)
	meet(t, "a span turned about", put(1), scan([2]float64{2, 0}), false)
}

// full: a hold with something in all fields.
func full() api.Hold {
	return api.Hold{ID: id(1, 2), Epoch: 3, Gets: []float64{4, 5, nan}, Scans: [][2]float64{{6, 7}, {8, nan}}, Puts: []float64{9, minusNought}, Data: []byte("data")}
}

// others: holds that are unlike full() in one thing each.
func others() []api.Hold {
	var l []api.Hold
	add := func(turn func(h *api.Hold)) {
		h := full()
		turn(&h)
		l = append(l, h)
	}
	add(func(h *api.Hold) { h.ID.Session = 2 })
	add(func(h *api.Hold) { h.ID.Seq = 1 })
	add(func(h *api.Hold) { h.ID = id(2, 1) })
	add(func(h *api.Hold) { h.Epoch = 4 })
	add(func(h *api.Hold) { h.Gets = nil })
	add(func(h *api.Hold) { h.Gets = h.Gets[:2] })
	add(func(h *api.Hold) { h.Gets = append(h.Gets, 5) })
	add(func(h *api.Hold) { h.Gets[1] = 5.5 })
	add(func(h *api.Hold) { h.Gets[2] = high })
	add(func(h *api.Hold) { h.Gets[0], h.Gets[1] = h.Gets[1], h.Gets[0] })
	add(func(h *api.Hold) { h.Scans = nil })
	add(func(h *api.Hold) { h.Scans = h.Scans[:1] })
	add(func(h *api.Hold) { h.Scans[0][0] = 6.5 })
	add(func(h *api.Hold) { h.Scans[0][1] = 8 })
	add(func(h *api.Hold) { h.Scans[1][1] = 0 })
	add(func(h *api.Hold) { h.Scans[0], h.Scans[1] = h.Scans[1], h.Scans[0] })
	add(func(h *api.Hold) { h.Scans[0][0], h.Scans[0][1] = h.Scans[0][1], h.Scans[0][0] })
	add(func(h *api.Hold) { h.Puts = nil })
	add(func(h *api.Hold) { h.Puts = h.Puts[:1] })
	add(func(h *api.Hold) { h.Puts[0] = 10 })
	add(func(h *api.Hold) { h.Puts[1] = 0 })
	add(func(h *api.Hold) { h.Gets, h.Puts = h.Puts, h.Gets })
	add(func(h *api.Hold) { h.Data = nil })
	add(func(h *api.Hold) { h.Data = h.Data[:3] })
	add(func(h *api.Hold) { h.Data[3] = 'A' })
	add(func(h *api.Hold) { h.Data = append(h.Data, 0) })
	return l
}

// P12.1: Same: all fields; numbers by number.Same; nil and empty lists are the same.
func TestSame(t *testing.T) {
	a := full()
	same := full()
	same.Gets[2], same.Scans[1][1] = otherNan, otherNan
	if !locks.Same(a, a) || !locks.Same(a, same) || !locks.Same(same, a) {
		t.Error("the same")
	}
	all := append(others(), a)
	for i, x := range all {
		for j, y := range all {
			if locks.Same(x, y) != (i == j) || locks.Same(y, x) != (i == j) {
				t.Errorf("Same(%v, %v) = %v", x, y, locks.Same(x, y))
			}
		}
	}
	empty := api.Hold{Gets: []float64{}, Scans: [][2]float64{}, Puts: []float64{}, Data: []byte{}}
	if !locks.Same(api.Hold{}, empty) || !locks.Same(empty, api.Hold{}) || !locks.Same(api.Hold{}, api.Hold{}) {
		t.Error("nil and empty lists")
	}
}

// table: a table in which these hold something.
func table(t *testing.T, l ...api.Hold) *locks.Table {
	t.Helper()
	b := locks.New()
	for _, h := range l {
		if e := b.Take(h); e != api.OK {
			t.Fatalf("Take(%v) = %d", h, e)
		}
	}
	return b
}

// held: do just these hold something, given as their IDs rise, by all calls that tell it? Asked twice, as asking changes nothing.
func held(t *testing.T, what string, b *locks.Table, want ...api.Hold) {
	t.Helper()
	for range 2 {
		ids := []api.ID{}
		first := uint64(top)
		for _, h := range want {
			ids = append(ids, h.ID)
			first = min(first, h.Epoch)
			if got, ok := b.Get(h.ID); !ok || !alike(got, h) {
				t.Errorf("%s: Get(%v) = %v, %v, want %v", what, h.ID, got, ok, h)
			}
		}
		if got := append([]api.ID{}, b.All()...); b.Len() != len(want) || !reflect.DeepEqual(got, ids) {
			t.Errorf("%s: Len %d, All %v, want %v", what, b.Len(), got, ids)
		}
		some := len(want) > 0
		if b.Until(first) != some || b.Until(top) != some || first > 0 && b.Until(first-1) || b.Until(0) != (some && first == 0) {
			t.Errorf("%s: Until: the first epoch is %d", what, first)
		}
	}
}

// none: does a transaction hold nothing?
func none(t *testing.T, b *locks.Table, id api.ID) {
	t.Helper()
	if h, ok := b.Get(id); ok || !alike(h, api.Hold{}) {
		t.Errorf("Get(%v) = %v, %v", id, h, ok)
	}
}

// P12.1: Take, Get, Drop: holds that come, go and come again.
func TestTakeAndDrop(t *testing.T) {
	a, b, c := in(3, by(2, 1, put(1))), in(2, by(1, 9, get(5))), in(5, by(2, 0, scan([2]float64{5, 6})))
	l := locks.New()
	held(t, "at first", l)
	none(t, l, id(0, 0))
	for range 3 {
		for n, h := range []api.Hold{a, b, c} {
			none(t, l, h.ID)
			if l.Drop(h.ID) {
				t.Error("Drop of one that holds nothing")
			}
			if e := l.Take(h); e != api.OK || l.Len() != n+1 {
				t.Errorf("Take = %d, Len %d", e, l.Len())
			}
		}
		held(t, "all three", l, b, c, a)
		none(t, l, id(2, 2))
		none(t, l, id(1, 1))
		none(t, l, id(9, 1))
		if l.Drop(id(1, 2)) || !l.Drop(c.ID) || l.Drop(c.ID) {
			t.Error("Drop")
		}
		held(t, "one is gone", l, b, a)
		if !l.Drop(b.ID) || !l.Drop(a.ID) || l.Drop(a.ID) {
			t.Error("Drop")
		}
		held(t, "all are gone", l)
	}
}

// P12.1, P5: ErrConflict: another one's hold meets it: nothing changes, and what is held stays.
func TestConflict(t *testing.T) {
	a, b := in(2, by(5, 1, put(1, 2))), in(3, by(6, 1, api.Hold{Gets: []float64{7}, Scans: [][2]float64{{10, 20}}}))
	l := table(t, a, b)
	for _, h := range []api.Hold{put(2), get(1), scan([2]float64{-1, 1}), put(7), put(20), put(9, 15), {Gets: []float64{7, 2}}} {
		for _, h := range []api.Hold{by(1, 1, h), by(5, 2, h), by(5, 0, h), by(7, 7, h)} {
			if e := l.Take(h); e != api.ErrConflict {
				t.Errorf("Take(%v) = %d", h, e)
			}
			held(t, "behind a conflict", l, a, b)
			none(t, l, h.ID)
		}
	}
	c := in(9, by(5, 2, api.Hold{Gets: []float64{7, 15}, Scans: [][2]float64{{2.5, 30}}, Puts: []float64{9}}))
	if e := l.Take(c); e != api.OK {
		t.Errorf("reads in common alone: %d", e)
	}
	held(t, "reads in common", l, a, c, b)
	l.Drop(a.ID)
	if e := l.Take(by(1, 1, put(1))); e != api.OK {
		t.Errorf("what was let go: %d", e)
	}
}

// P12.1: Take of an ID that holds something already: it holds the new one, and nothing else; its own hold is in nobody's way but others'.
func TestTakeAgain(t *testing.T) {
	a := in(2, by(5, 1, api.Hold{Puts: []float64{1, 2}, Data: []byte("old")}))
	o := in(4, by(5, 2, put(7)))
	l := table(t, a, o)
	for _, h := range []api.Hold{in(9, by(5, 1, put(2, 3))), in(1, by(5, 1, get(2))), in(2, by(5, 1, api.Hold{})), a, a} {
		if e := l.Take(h); e != api.OK {
			t.Errorf("Take(%v) = %d", h, e)
		}
		held(t, "again", l, h, o)
	}
	l.Take(in(3, by(5, 1, put(4))))
	if e := l.Take(by(8, 8, put(1, 2))); e != api.OK {
		t.Errorf("what it held before: %d", e)
	}
	l.Drop(id(8, 8))
	if e := l.Take(in(1, by(5, 1, put(7)))); e != api.ErrConflict {
		t.Errorf("what another one holds: %d", e)
	}
	held(t, "behind a conflict", l, in(3, by(5, 1, put(4))), o)
}

// P12.1: All: by Session, then Seq, in whatever order they came; both as numbers without a sign.
func TestAll(t *testing.T) {
	ids := []api.ID{id(0, 0), id(0, 1), id(0, top), id(1, 0), id(1, 2), id(1, 10), id(2, 1), id(1<<63, 5), id(top, 0), id(top, top)}
	var want []api.Hold
	for _, i := range ids {
		want = append(want, api.Hold{ID: i})
	}
	for _, step := range []int{1, 3, 7, 9} { // each goes round all ten of them
		l := locks.New()
		for n := range ids {
			l.Take(want[n*step%len(ids)])
		}
		held(t, fmt.Sprint("by steps of ", step), l, want...)
	}
}

// P12.1: Until at, above and below an Epoch.
func TestUntil(t *testing.T) {
	l := table(t, in(5, by(1, 1, get(1))), in(7, by(1, 2, get(1))))
	for epoch, want := range map[uint64]bool{0: false, 4: false, 5: true, 6: true, 7: true, 8: true, top: true} {
		if l.Until(epoch) != want {
			t.Errorf("Until(%d) = %v", epoch, !want)
		}
	}
	l.Drop(id(1, 1))
	if l.Until(6) || !l.Until(7) {
		t.Error("Until, one is gone")
	}
	l.Take(in(0, by(0, 0, api.Hold{})))
	if !l.Until(0) {
		t.Error("Until(0)")
	}
	l.Take(in(top, by(0, 0, api.Hold{})))
	l.Drop(id(1, 2))
	if l.Until(top-1) || !l.Until(top) {
		t.Error("Until of the greatest")
	}
}

// P12.1, P12.2, P1: of a nil table ErrNone, false, 0; a zero one is as a new one.
func TestNilTable(t *testing.T) {
	var l *locks.Table
	for range 2 {
		if e := l.Take(full()); e != api.ErrNone {
			t.Errorf("Take = %d", e)
		}
		if e := l.Take(api.Hold{}); e != api.ErrNone {
			t.Errorf("Take of nothing = %d", e)
		}
		none(t, l, full().ID)
		if l.Drop(full().ID) || l.Len() != 0 || len(l.All()) != 0 || l.Until(top) || l.Until(0) || len(l.Encode()) != 0 {
			t.Error("a nil table tells something")
		}
	}
	z := &locks.Table{}
	z.Take(full())
	held(t, "zero", z, full())
}

// smear: bytes written over.
func smear(p []byte) {
	p = p[:cap(p)]
	for n := range p {
		p[n] ^= 0xff
	}
}

// spoil: all lists of a hold written over.
func spoil(h api.Hold) {
	for _, l := range [][]float64{h.Gets[:cap(h.Gets)], h.Puts[:cap(h.Puts)]} {
		for n := range l {
			l[n] += 1000
		}
	}
	for n := range h.Scans {
		h.Scans[n] = [2]float64{low, nan}
	}
	smear(h.Data)
}

// The rule of memory: what was handed in, and what was answered, may be written over; Meet and Same change nothing.
func TestMemory(t *testing.T) {
	h := full()
	l := table(t, h)
	locks.Meet(h, h)
	locks.Same(h, full())
	if !alike(h, full()) {
		t.Error("what was handed in is changed")
	}
	spoil(h)
	held(t, "handed in", l, full())
	got, _ := l.Get(full().ID)
	spoil(got)
	got.Puts[0] = 77
	_ = append(got.Gets, 1)
	held(t, "Get", l, full())
	again, o := full(), by(9, 9, get(3))
	l.Take(again)
	spoil(again)
	l.Take(o)
	held(t, "taken again", l, full(), o)
	l.All()[0] = id(8, 8)
	_ = append(l.All()[:1], id(7, 7))
	held(t, "All", l, full(), o)
	p := l.Encode()
	kept := bytes.Clone(p)
	u, e := locks.Decode(p)
	if e != api.OK || !bytes.Equal(p, kept) {
		t.Fatalf("Decode: %d, or its bytes are changed", e)
	}
	smear(p)
	held(t, "Encode", l, full(), o)
	held(t, "Decode", u, full(), o)
	u.Drop(o.ID)
	held(t, "a copy", l, full(), o)
	l.Drop(full().ID)
	held(t, "a copy", u, full())
}
