package mvcc_test

import (
	"bytes"
	"math"
	"math/rand"
	"testing"

	"dumbwaiter/api"
	"dumbwaiter/garble"
	"dumbwaiter/mvcc"
	"dumbwaiter/number"
	"dumbwaiter/octet"
)

// laid is a store as it stands in bytes, right or wrong.
type laid struct {
	rank uint64
	list []mvcc.Version
}

// lay: the bytes of P11.2, by hand.
func lay(l ...laid) []byte {
	w := (&octet.Writer{}).Num(uint64(len(l)), 4)
	for _, c := range l {
		w.Num(c.rank, 8).Num(uint64(len(c.list)), 4)
		for _, v := range c.list {
			w.Num(v.Epoch, 8).Num(v.Index, 8).Flag(v.Del).Bytes(v.Val)
		}
	}
	return w.Done()
}

func at(x float64, l ...mvcc.Version) laid { return laid{number.Rank(x), l} }

// refused: are these bytes of no store?
func refused(t *testing.T, what string, p []byte) {
	t.Helper()
	if s, e := mvcc.Decode(p); e != api.ErrForm || s != nil {
		t.Errorf("%s: Decode(%x) = %v, %d", what, p, s, e)
	}
}

// taken: are these bytes of a store, and does it make them again?
func taken(t *testing.T, what string, p []byte) *mvcc.Store {
	t.Helper()
	s, e := mvcc.Decode(p)
	if e != api.OK || s == nil {
		t.Fatalf("%s: Decode(%x) = %v, %d", what, p, s, e)
	}
	if got := s.Encode(); !bytes.Equal(got, p) {
		t.Errorf("%s: %x, then %x", what, p, got)
	}
	return s
}

// P11.2: the bytes, one by one.
func TestEncode(t *testing.T) {
	s := mvcc.New()
	if got := s.Encode(); !bytes.Equal(got, make([]byte, 4)) {
		t.Errorf("of nothing: %x", got)
	}
	s.Put(1, gone(0x0102030405060708, 3))
	s.Put(1, val(2, 0x1122334455667788, "hi"))
	s.Put(minusNought, val(1, 0, ""))
	want := "\x02\x00\x00\x00" +
		"\xff\xff\xff\xff\xff\xff\xff\x7f" + "\x01\x00\x00\x00" +
		"\x01\x00\x00\x00\x00\x00\x00\x00" + "\x00\x00\x00\x00\x00\x00\x00\x00" + "\x00" + "\x00\x00\x00\x00" +
		"\x00\x00\x00\x00\x00\x00\xf0\xbf" + "\x02\x00\x00\x00" +
		"\x02\x00\x00\x00\x00\x00\x00\x00" + "\x88\x77\x66\x55\x44\x33\x22\x11" + "\x00" + "\x02\x00\x00\x00hi" +
		"\x08\x07\x06\x05\x04\x03\x02\x01" + "\x03\x00\x00\x00\x00\x00\x00\x00" + "\x01" + "\x00\x00\x00\x00"
	for range 2 {
		if got := s.Encode(); string(got) != want {
			t.Errorf("%x, want %x", got, want)
		}
	}
	u := taken(t, "by hand", []byte(want))
	has(t, "by hand", u, 1, val(2, 0x1122334455667788, "hi"), gone(0x0102030405060708, 3))
	has(t, "by hand", u, minusNought, val(1, 0, ""))
	has(t, "by hand", u, 0)
	sizes(t, "by hand", u, 2, 3)
}

// P11.2: what is read may be put to, and trimmed, as what it was made of.
func TestDecode(t *testing.T) {
	s := mvcc.New()
	for n, x := range edges() {
		s.Put(x, val(uint64(n), 1, number.Text(x)))
		s.Put(x, gone(uint64(n)+2, 0))
		s.Put(x, val(uint64(n)+2, 5, ""))
	}
	u := taken(t, "edges", s.Encode())
	for epoch := range uint64(16) {
		for _, x := range edges() {
			if !sameGot(s.Get(x, epoch), u.Get(x, epoch)) || !sameVersions(s.Versions(x), u.Versions(x)) {
				t.Errorf("at %v", x)
			}
		}
		if !samePairs(s.Scan(-1, nan, epoch, 7), u.Scan(-1, nan, epoch, 7)) {
			t.Errorf("epoch %d", epoch)
		}
	}
	s.Put(0.5, gone(1, 1))
	u.Put(0.5, gone(1, 1))
	s.Trim(6)
	u.Trim(6)
	if !bytes.Equal(s.Encode(), u.Encode()) || s.Len() != u.Len() || s.Size() != u.Size() {
		t.Error("behind a Trim")
	}
	sizes(t, "of nothing", taken(t, "of nothing", make([]byte, 4)), 0, 0)
}

// P11.2: a Val of just MaxValue bytes, and one more. Put takes it, and Encode lays it; Decode tells of none.
func TestLongVal(t *testing.T) {
	for n := api.MaxValue - 1; n < api.MaxValue+3; n++ {
		v := mvcc.Version{Epoch: 1, Val: bytes.Repeat([]byte{'v'}, n)}
		s := with(v, val(2, 0, ""))
		has(t, "long", s, 1, v, val(2, 0, ""))
		tells(t, s, 1, 1, string(v.Val))
		p := s.Encode()
		if !bytes.Equal(p, lay(at(1, v, val(2, 0, "")))) {
			t.Errorf("%d bytes: %x", n, p)
		}
		if n <= api.MaxValue {
			has(t, "long, read", taken(t, "long", p), 1, v, val(2, 0, ""))
		} else {
			refused(t, "long", p)
		}
	}
}

// some: bytes of a store that is right.
func some() []byte {
	return lay(at(low, val(1, 2, "ab")), at(minusNought, gone(0, 0)), at(0, val(3, 0, ""), val(3, 1, "x"), gone(5, 0)), at(nan, val(top, top, "end")))
}

// P11.2: each shorter part of right bytes, and bytes with more behind them.
func TestShorterAndLonger(t *testing.T) {
	p := some()
	taken(t, "whole", p)
	for n := range p {
		refused(t, "shorter", p[:n:n])
		refused(t, "its end alone", p[n+1:])
	}
	for b := range 256 {
		refused(t, "one more", append(bytes.Clone(p), byte(b)))
	}
	refused(t, "twice", append(bytes.Clone(p), p...))
	refused(t, "four more", append(bytes.Clone(p), 0, 0, 0, 0))
	refused(t, "nothing with more", make([]byte, 5))
	refused(t, "nil", nil)
}

// P11.2: one bit turned, or one byte another: then they are of no store, or of another one.
func TestTurnedBits(t *testing.T) {
	p := some()
	for n := range p {
		for b := range 256 {
			q := bytes.Clone(p)
			q[n] = byte(b)
			if s, e := mvcc.Decode(q); e == api.OK {
				if !bytes.Equal(s.Encode(), q) {
					t.Errorf("byte %d is %d: other bytes", n, b)
				}
			} else if e != api.ErrForm || s != nil || byte(b) == p[n] {
				t.Errorf("byte %d is %d: %v, %d", n, b, s, e)
			}
		}
	}
}

// P11.2: bytes that Encode makes of no store.
func TestBytesOfNone(t *testing.T) {
	a, b := val(1, 0, "a"), val(2, 0, "b")
	taken(t, "right", lay(at(1, a, b), at(2, a)))
	refused(t, "numbers fall", lay(at(2, a), at(1, a, b)))
	refused(t, "numbers fall at the end", lay(at(1, a), at(3, a), at(2, a)))
	refused(t, "a number twice", lay(at(1, a), at(1, b)))
	refused(t, "noughts fall", lay(at(0, a), at(minusNought, a)))
	refused(t, "NaN ahead", lay(at(nan, a), at(high, a)))
	refused(t, "NaN twice", lay(at(nan, a), at(nan, b)))
	refused(t, "epochs fall", lay(at(1, b, a)))
	refused(t, "indexes fall", lay(at(1, val(1, 5, ""), val(1, 4, ""))))
	refused(t, "epochs fall, indexes rise", lay(at(1, val(2, 1, ""), val(1, 2, ""))))
	taken(t, "epochs rise, indexes fall", lay(at(1, val(1, 2, ""), val(2, 1, ""))))
	refused(t, "a place twice", lay(at(1, a, a)))
	refused(t, "a place twice, at the end", lay(at(1, a, b, b)))
	refused(t, "a place twice, with Del", lay(at(1, a, gone(1, 0))))
	del := gone(1, 0)
	del.Val = []byte{0}
	refused(t, "Del with a Val", lay(at(1, del)))
	refused(t, "Del with a Val, behind", lay(at(1, val(0, 9, "x"), del, b)))
	refused(t, "a number without versions", lay(at(1)))
	refused(t, "a number without versions, behind", lay(at(1, a), at(2), at(3, a)))
	refused(t, "one too many told", append([]byte{2}, lay(at(1, a))[1:]...))
	refused(t, "one too few told", append([]byte{1}, lay(at(1, a), at(2, a))[1:]...))
	flag := lay(at(1, val(1, 1, "")))
	for b := 2; b < 256; b++ {
		flag[4+8+4+16] = byte(b)
		refused(t, "a Flag that is none", flag)
	}
	refused(t, "far too many", []byte{255, 255, 255, 255})
	refused(t, "far too many versions", (&octet.Writer{}).Num(1, 4).Num(number.Rank(1), 8).Num(math.MaxUint32, 4).Num(1, 8).Done())
}

// P11.2: Ranks that are none: those behind the greatest infinity's but the last, and those ahead of the least one's.
func TestRanksOfNone(t *testing.T) {
	v := val(1, 0, "a")
	first, last := number.Rank(low), number.Rank(high)
	for _, n := range []uint64{0, 1, first / 2, first - 1, last + 1, last + 2, last + (top-last)/2, top - 1} {
		refused(t, "a Rank that is none", lay(laid{n, []mvcc.Version{v}}))
		refused(t, "a Rank that is none, among others", lay(at(-high, v), laid{n, []mvcc.Version{v}}, at(nan, v)))
	}
	for _, n := range []uint64{first, first + 1, last - 1, last, top} {
		has(t, "a Rank", taken(t, "a Rank", lay(laid{n, []mvcc.Version{v}})), number.Back(n), v)
	}
}

// P11.2, P1: bytes by lot: Decode ends, and what it takes makes the same bytes again.
func TestDecodeByLot(t *testing.T) {
	g := rand.New(rand.NewSource(111))
	p := some()
	for range 20000 {
		q := garble.ByLot(p, g.Intn)
		kept := bytes.Clone(q)
		s, e := mvcc.Decode(q)
		if !bytes.Equal(q, kept) {
			t.Fatal("what was handed in is changed")
		}
		if e == api.OK && !bytes.Equal(s.Encode(), q) || e != api.OK && (e != api.ErrForm || s != nil) {
			t.Fatalf("Decode(%x) = %v, %d", q, s, e)
		}
	}
}
