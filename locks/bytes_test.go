package locks_test

import (
	"bytes"
	"math"
	"math/rand"
	"reflect"
	"testing"

	"dumbwaiter/api"
	"dumbwaiter/garble"
	"dumbwaiter/locks"
	"dumbwaiter/number"
	"dumbwaiter/octet"
)

// lay: a hold's bytes as locks.Lay lays them.
func lay(h api.Hold) []byte {
	w := &octet.Writer{}
	locks.Lay(w, h)
	return w.Done()
}

// tabled: the bytes of P12.2 of a table, of holds that are given by hand, right or wrong.
func tabled(l ...api.Hold) []byte {
	p := (&octet.Writer{}).Num(uint64(len(l)), 4).Done()
	for _, h := range l {
		p = append(p, lay(h)...)
	}
	return p
}

func refused(t *testing.T, what string, p []byte) {
	t.Helper()
	if b, e := locks.Decode(p); e != api.ErrForm || b != nil {
		t.Errorf("%s: Decode(%x) = %v, %d", what, p, b, e)
	}
}

func taken(t *testing.T, what string, p []byte) *locks.Table {
	t.Helper()
	b, e := locks.Decode(p)
	if e != api.OK || b == nil {
		t.Fatalf("%s: Decode(%x) = %v, %d", what, p, b, e)
	}
	if got := b.Encode(); !bytes.Equal(got, p) {
		t.Errorf("%s: %x, then %x", what, p, got)
	}
	return b
}

// fault: does Read find a fault, and answer nothing?
func fault(t *testing.T, what string, p []byte) {
	t.Helper()
	r := octet.Read(p)
	if h := locks.Read(r); !r.Bad() || !alike(h, api.Hold{}) {
		t.Errorf("%s: Read(%x) = %v, Bad %v", what, p, h, r.Bad())
	}
}

// P12.2: the bytes of a hold, and of a table, one by one.
func TestBytes(t *testing.T) {
	h := api.Hold{ID: id(0x0102030405060708, 2), Epoch: 3, Gets: []float64{1, minusNought}, Scans: [][2]float64{{0, high}}, Puts: []float64{otherNan}, Data: []byte("hi")}
	want := "\x08\x07\x06\x05\x04\x03\x02\x01" + "\x02\x00\x00\x00\x00\x00\x00\x00" + "\x03\x00\x00\x00\x00\x00\x00\x00" +
		"\x02\x00\x00\x00" + "\x00\x00\x00\x00\x00\x00\xf0\xbf" + "\xff\xff\xff\xff\xff\xff\xff\x7f" +
		"\x01\x00\x00\x00" + "\x00\x00\x00\x00\x00\x00\x00\x80" + "\x00\x00\x00\x00\x00\x00\xf0\xff" +
		"\x01\x00\x00\x00" + "\xff\xff\xff\xff\xff\xff\xff\xff" +
		"\x02\x00\x00\x00hi"
	if got := lay(h); string(got) != want {
		t.Errorf("Lay: %x, want %x", got, want)
	}
	r := octet.Read([]byte(want + "more"))
	if got := locks.Read(r); !alike(got, h) || r.Bad() || r.Left() != 4 {
		t.Errorf("Read = %v, %d bytes left", got, r.Left())
	}
	nothing := string(make([]byte, 40))
	if got := lay(api.Hold{}); string(got) != nothing {
		t.Errorf("Lay of nothing: %x", got)
	}
	l := table(t, h, api.Hold{})
	if got := l.Encode(); string(got) != "\x02\x00\x00\x00"+nothing+want {
		t.Errorf("Encode: %x", got)
	}
	held(t, "by hand", taken(t, "by hand", []byte("\x02\x00\x00\x00"+nothing+want)), api.Hold{}, h)
	if got := locks.New().Encode(); !bytes.Equal(got, make([]byte, 4)) {
		t.Errorf("Encode of nothing: %x", got)
	}
	held(t, "nothing", taken(t, "nothing", make([]byte, 4)))
}

// P12.2: holds stand one behind the other in one writer, and are read so.
func TestLayAndRead(t *testing.T) {
	l := append(others(), full(), api.Hold{}, get(edges()...), put(edges()...), scan([2]float64{nan, low}, [2]float64{minusNought, 0}))
	w := &octet.Writer{}
	w.Num(7, 1)
	for _, h := range l {
		kept := flat(h)
		locks.Lay(w, h)
		if !reflect.DeepEqual(flat(h), kept) {
			t.Error("what was handed in is changed")
		}
	}
	p := w.Done()
	r := octet.Read(p)
	r.Num(1)
	var read []api.Hold
	for _, h := range l {
		got := locks.Read(r)
		if !alike(got, h) || !locks.Same(got, h) {
			t.Errorf("Read = %v, want %v", got, h)
		}
		read = append(read, got)
	}
	if !r.End() {
		t.Error("bytes are left")
	}
	smear(p)
	for n, h := range l {
		if !alike(read[n], h) {
			t.Errorf("what was read hangs on its bytes: %v", h)
		}
	}
}

// P12.2, P1: nil writers and readers, and readers that had a fault.
func TestNilWriterAndReader(t *testing.T) {
	locks.Lay(nil, full())
	if h := locks.Read(nil); !alike(h, api.Hold{}) {
		t.Errorf("of a nil reader: %v", h)
	}
	fault(t, "nothing", nil)
	r := octet.Read(lay(full()))
	r.Num(-1)
	if h := locks.Read(r); !alike(h, api.Hold{}) {
		t.Errorf("behind a fault: %v", h)
	}
}

// many: so many numbers, from one on.
func many(n int, from float64) []float64 {
	var l []float64
	for i := range n {
		l = append(l, from+float64(i))
	}
	return l
}

func spans(n int, from float64) [][2]float64 {
	var l [][2]float64
	for _, x := range many(n, from) {
		l = append(l, [2]float64{x, x + 0.5})
	}
	return l
}

// P12.2: just MaxOps of each and MaxValue + 1 bytes of Data are read; one more of any is a fault. Take holds it all the same.
func TestLimits(t *testing.T) {
	at := api.Hold{ID: id(1, 1), Epoch: 1, Gets: many(api.MaxOps, 0), Scans: spans(api.MaxOps, 100), Puts: many(api.MaxOps, 200), Data: bytes.Repeat([]byte{'d'}, api.MaxValue+1)}
	r := octet.Read(lay(at))
	if h := locks.Read(r); !alike(h, at) || !r.End() {
		t.Error("at the limits")
	}
	held(t, "at the limits", taken(t, "at the limits", tabled(at)), at)
	for what, turn := range map[string]func(h *api.Hold){
		"Gets":  func(h *api.Hold) { h.Gets = many(api.MaxOps+1, 0) },
		"Scans": func(h *api.Hold) { h.Scans = spans(api.MaxOps+1, 100) },
		"Puts":  func(h *api.Hold) { h.Puts = many(api.MaxOps+1, 200) },
		"Data":  func(h *api.Hold) { h.Data = bytes.Repeat([]byte{'d'}, api.MaxValue+2) },
	} {
		for _, h := range []api.Hold{{ID: id(1, 1)}, at} {
			turn(&h)
			fault(t, what, lay(h))
			refused(t, what, tabled(h))
			l := table(t, h)
			held(t, what, l, h)
			if !bytes.Equal(l.Encode(), tabled(h)) {
				t.Errorf("%s: Encode", what)
			}
		}
	}
}

// some: bytes of a table that is right.
func some() []byte {
	return tabled(in(2, by(0, 9, put(1, nan))), in(3, by(1, 0, api.Hold{Gets: []float64{2, minusNought}, Scans: [][2]float64{{3, high}}, Data: []byte("ab")})), by(1, 7, api.Hold{Puts: []float64{-5}, Data: []byte("z")}))
}

// P12.2: each shorter part of right bytes, and bytes with more behind them.
func TestShorterAndLonger(t *testing.T) {
	p := some()
	taken(t, "whole", p)
	for n := range p {
		refused(t, "shorter", p[:n:n])
		refused(t, "its end alone", p[n+1:])
	}
	for b := range 256 {
		refused(t, "one more", append(bytes.Clone(p), byte(b)))
	}
	refused(t, "twice", append(bytes.Clone(p), p...))
	refused(t, "one hold more than told", append(bytes.Clone(p), lay(by(9, 9, get(2)))...))
	refused(t, "nothing with more", make([]byte, 5))
	refused(t, "nil", nil)
	q := lay(full())
	for n := range q {
		fault(t, "shorter", q[:n:n])
	}
}

// P12.2: one bit turned, or one byte another: then they are of no table, or of another one.
func TestTurnedBits(t *testing.T) {
	p := some()
	for n := range p {
		for b := range 256 {
			q := bytes.Clone(p)
			q[n] = byte(b)
			if l, e := locks.Decode(q); e == api.OK {
				if !bytes.Equal(l.Encode(), q) {
					t.Errorf("byte %d is %d: other bytes", n, b)
				}
			} else if e != api.ErrForm || l != nil || byte(b) == p[n] {
				t.Errorf("byte %d is %d: %v, %d", n, b, l, e)
			}
		}
	}
}

// P12.2: bytes that Encode makes of no table: IDs that fall, that stand twice, holds that meet.
func TestBytesOfNone(t *testing.T) {
	a, b := by(1, 5, get(1)), by(2, 3, put(2))
	taken(t, "right", tabled(a, b))
	refused(t, "sessions fall", tabled(b, a))
	refused(t, "numbers fall", tabled(by(1, 5, get(1)), by(1, 4, get(1))))
	refused(t, "sessions fall, numbers rise", tabled(by(2, 1, get(1)), by(1, 2, get(1))))
	taken(t, "sessions rise, numbers fall", tabled(by(1, 2, get(1)), by(2, 1, get(1))))
	refused(t, "they fall at the end", tabled(a, by(9, 9, get(1)), b))
	refused(t, "an ID twice, with the same", tabled(a, a))
	refused(t, "an ID twice", tabled(a, by(1, 5, get(7))))
	refused(t, "they meet", tabled(a, by(2, 3, put(1))))
	refused(t, "they meet by a span", tabled(by(1, 1, put(3)), a, by(2, 3, scan([2]float64{2, 4}))))
	taken(t, "they read the same", tabled(a, by(2, 3, get(1))))
	taken(t, "one that meets itself", tabled(by(1, 1, api.Hold{Gets: []float64{1, 1}, Puts: []float64{1, 1}})))
	refused(t, "one too many told", append([]byte{3}, tabled(a, b)[1:]...))
	refused(t, "one too few told", append([]byte{1}, tabled(a, b)[1:]...))
	refused(t, "far too many", []byte{255, 255, 255, 255})
	refused(t, "far too many Gets", (&octet.Writer{}).Num(1, 4).Num(1, 8).Num(1, 8).Num(1, 8).Num(math.MaxUint32, 4).Done())
}

// P12.2: Ranks that are none, at each place of a hold where one stands.
func TestRanksOfNone(t *testing.T) {
	h := api.Hold{Gets: []float64{1, 2}, Scans: [][2]float64{{3, 4}, {5, 6}}, Puts: []float64{7, 8}}
	places := []int{28, 36, 48, 56, 64, 72, 84, 92}
	first, last := number.Rank(low), number.Rank(high)
	for _, at := range places {
		for _, n := range []uint64{0, 1, first - 1, last + 1, top - 1} {
			p := lay(h)
			copy(p[at:], (&octet.Writer{}).Num(n, 8).Done())
			fault(t, "a Rank that is none", p)
			refused(t, "a Rank that is none", append([]byte{1, 0, 0, 0}, p...))
			refused(t, "a Rank that is none, among others", append(append([]byte{2, 0, 0, 0}, p...), lay(by(1, 1, get(9)))...))
		}
		for _, n := range []uint64{first, last, top} {
			p := lay(h)
			copy(p[at:], (&octet.Writer{}).Num(n, 8).Done())
			taken(t, "a Rank", append([]byte{1, 0, 0, 0}, p...))
		}
	}
}

// P12.2, P1: bytes by lot: Decode ends, and what it takes makes the same bytes again.
func TestDecodeByLot(t *testing.T) {
	g := rand.New(rand.NewSource(122))
	p := some()
	for range 20000 {
		q := garble.ByLot(p, g.Intn)
		kept := bytes.Clone(q)
		l, e := locks.Decode(q)
		locks.Read(octet.Read(q))
		if !bytes.Equal(q, kept) {
			t.Fatal("what was handed in is changed")
		}
		if e == api.OK && !bytes.Equal(l.Encode(), q) || e != api.OK && (e != api.ErrForm || l != nil) {
			t.Fatalf("Decode(%x) = %v, %d", q, l, e)
		}
	}
}
