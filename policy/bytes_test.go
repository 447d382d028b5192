package policy_test

import (
	"bytes"
	"math"
	"math/rand"
	"testing"

	"dumbwaiter/api"
	"dumbwaiter/garble"
	"dumbwaiter/number"
	"dumbwaiter/octet"
	"dumbwaiter/policy"
)

// one is a rule as it stands in a book's bytes.
type one struct {
	r           api.Rule
	from, until uint64
}

// laid: a book's bytes by the words of the chapter, right or wrong.
func laid(l ...one) []byte {
	w := (&octet.Writer{}).Num(uint64(len(l)), 4)
	for _, x := range l {
		w.Num(x.r.ID, 8).Num(uint64(x.r.From), 1).Num(uint64(x.r.To), 1)
		w.Num(number.Rank(x.r.Lo), 8).Num(number.Rank(x.r.Hi), 8).Num(x.r.Authority, 8).Num(uint64(x.r.Quota), 4)
		w.Num(x.from, 8).Num(x.until, 8)
	}
	return w.Done()
}

// taken: are these bytes a book's, and does it make them again?
func taken(t *testing.T, what string, p []byte) *policy.Book {
	t.Helper()
	b, e := policy.Decode(p)
	if e != api.OK || b == nil {
		t.Fatalf("%s: Decode(%x) = %v, %d", what, p, b, e)
	}
	if got := b.Encode(); !bytes.Equal(got, p) {
		t.Errorf("%s: %x, then %x", what, p, got)
	}
	return b
}

// refused: are these bytes no book's?
func refused(t *testing.T, what string, p []byte) {
	t.Helper()
	if b, e := policy.Decode(p); e != api.ErrForm || b != nil {
		t.Errorf("%s: Decode(%x) = %v, %d", what, p, b, e)
	}
}

// either: are these bytes no book's, or of one that makes them again?
func either(t *testing.T, what string, p []byte) bool {
	t.Helper()
	kept := bytes.Clone(p)
	_, e := policy.Decode(p)
	if e == api.OK {
		taken(t, what, p)
	} else {
		refused(t, what, p)
	}
	if !bytes.Equal(p, kept) {
		t.Errorf("%s: what was handed in is changed", what)
	}
	return e == api.OK
}

// P15.2: the bytes, one by one: rules as they came.
func TestEncode(t *testing.T) {
	b := policy.New()
	if got := b.Encode(); !bytes.Equal(got, make([]byte, 4)) {
		t.Errorf("of nothing: %x", got)
	}
	b.Grant(api.Rule{ID: 0x0102030405060708, From: 15, To: 3, Lo: minusNought, Hi: nan, Authority: 9, Quota: 65536}, 258)
	b.Grant(api.Rule{ID: 1, To: 2, Lo: 1, Hi: high, Authority: top}, 1)
	b.Revoke(0x0102030405060708, 259)
	want := "\x02\x00\x00\x00" +
		"\x08\x07\x06\x05\x04\x03\x02\x01" + "\x0f\x03" + "\xff\xff\xff\xff\xff\xff\xff\x7f" + "\xff\xff\xff\xff\xff\xff\xff\xff" +
		"\x09\x00\x00\x00\x00\x00\x00\x00" + "\x00\x00\x01\x00" + "\x02\x01\x00\x00\x00\x00\x00\x00" + "\x03\x01\x00\x00\x00\x00\x00\x00" +
		"\x01\x00\x00\x00\x00\x00\x00\x00" + "\x00\x02" + "\x00\x00\x00\x00\x00\x00\xf0\xbf" + "\x00\x00\x00\x00\x00\x00\xf0\xff" +
		"\xff\xff\xff\xff\xff\xff\xff\xff" + "\x00\x00\x00\x00" + "\x01\x00\x00\x00\x00\x00\x00\x00" + "\x00\x00\x00\x00\x00\x00\x00\x00"
	for range 2 {
		if got := b.Encode(); string(got) != want {
			t.Errorf("%x, want %x", got, want)
		}
	}
	u := taken(t, "by hand", []byte(want))
	size(t, u, 2)
	if r, ok := u.At(0x0102030405060708, 258); !ok || number.Rank(r.Lo) != number.Rank(minusNought) || !math.IsNaN(r.Hi) || r.From != 15 || r.To != 3 || r.Authority != 9 || r.Quota != 65536 {
		t.Errorf("%v, %v", r, ok)
	}
	size(t, taken(t, "of nothing", make([]byte, 4)), 0)
}

// P15.2: what is read is granted, revoked and asked as what it was made of.
func TestDecode(t *testing.T) {
	l := []one{{rule(5, 10), 1, 3}, {rule(2, 20), 2, 0}, {rule(5, 30), 3, 5}, {rule(1, 40), 4, 4}, {rule(5, 50), 6, 0}}
	u := taken(t, "right", laid(l...))
	size(t, u, 5)
	at(t, "read", u, 5, -1, 10, 10, 30, 30, -1, 50, 50)
	at(t, "read", u, 2, -1, -1, 20, 20)
	at(t, "read", u, 1, -1, -1, -1, -1, -1, -1)
	revoke(t, u, 1, 7, false)
	revoke(t, u, 2, 7, true)
	u.Grant(rule(5, 60), 7)
	at(t, "revoked", u, 2, -1, -1, 20, 20, 20, 20, 20, -1)
	at(t, "granted", u, 5, -1, 10, 10, 30, 30, -1, 50, 60)
	l[1].until, l[4].until = 7, 7
	if got := u.Encode(); !bytes.Equal(got, laid(append(l, one{rule(5, 60), 7, 0})...)) {
		t.Errorf("%x", got)
	}
}

// some: bytes of a book that is right.
func some() []byte {
	return laid(one{rule(1, 10), 2, 3}, one{rule(2, 20), 2, 0}, one{rule(1, 30), 3, 0})
}

// P15.2: each shorter part of right bytes, and bytes with more behind them.
func TestShorterAndLonger(t *testing.T) {
	p := some()
	taken(t, "whole", p)
	for n := range p {
		refused(t, "shorter", p[:n:n])
		either(t, "its end alone", p[n+1:])
	}
	for b := range 256 {
		refused(t, "one more", append(bytes.Clone(p), byte(b)))
	}
	refused(t, "twice", append(bytes.Clone(p), p...))
	refused(t, "nothing with more", make([]byte, 5))
	refused(t, "nil", nil)
}

// P15.2: rules that do not stand as Encode lays them: one that is granted ends the one of its ID that holds, so that the last one alone may hold without an end.
func TestBytesOfNone(t *testing.T) {
	a, ended, b := one{rule(1, 10), 2, 0}, one{rule(1, 10), 2, 4}, one{rule(2, 20), 3, 0}
	taken(t, "right", laid(ended, b, one{rule(1, 30), 4, 0}))
	taken(t, "ended by Revoke", laid(ended, b, one{rule(1, 30), 9, 0}))
	taken(t, "IDs fall", laid(b, a))
	taken(t, "epochs fall", laid(one{rule(1, 10), 9, 0}, one{rule(2, 20), 1, 0}))
	taken(t, "all are ended", laid(ended, ended, ended))
	refused(t, "two of one ID hold", laid(a, a))
	refused(t, "two of one ID hold, apart", laid(a, b, one{rule(1, 30), 4, 0}))
	refused(t, "an earlier one holds, the later one doesn't", laid(a, ended))
	refused(t, "an earlier one holds, apart", laid(b, a, one{rule(3, 1), 4, 0}, ended))
	refused(t, "one too many told", append([]byte{3}, laid(a, b)[1:]...))
	refused(t, "one too few told", append([]byte{1}, laid(a, b)[1:]...))
	refused(t, "far too many", []byte{255, 255, 255, 255})
	refused(t, "far too many, one there", append([]byte{255, 255, 255, 255}, laid(a)[4:]...))
}

// P15.2: a Rank that is none, as Lo and as Hi.
func TestRanksOfNone(t *testing.T) {
	first, last := number.Rank(low), number.Rank(high)
	for rank, none := range map[uint64]bool{0: true, 1: true, first - 1: true, first: false, last: false, last + 1: true, top - 1: true, top: false} {
		for _, at := range []int{4 + 10, 4 + 18, 4 + 54 + 10, 4 + 54 + 18} {
			p := some()
			copy(p[at:], (&octet.Writer{}).Num(rank, 8).Done())
			if none {
				refused(t, "a Rank that is none", p)
			} else {
				taken(t, "a Rank", p)
			}
		}
	}
}

// P15.2: one byte another one: then they are of no book, or of another one, that makes them.
func TestTurned(t *testing.T) {
	for p := range garble.Turned(some()) {
		either(t, "turned", p)
	}
}

// P15.2, P1: bytes by lot: Decode ends, and what it takes makes the same bytes again.
func TestDecodeByLot(t *testing.T) {
	g := rand.New(rand.NewSource(152))
	took := 0
	for range 20000 {
		if either(t, "by lot", garble.ByLot(some(), g.Intn)) {
			took++
		}
	}
	if took < 500 {
		t.Errorf("the lot is too even: %d", took)
	}
}

// grants is what the chapter says of a book, as a plain list of rules.
type grants []one

// end: the one of an ID whose end isn't told yet ends.
func (l grants) end(id, epoch uint64) bool {
	for n := range l {
		if l[n].r.ID == id && l[n].until == 0 {
			l[n].until = epoch
			return true
		}
	}
	return false
}

// at: the Quota of the one that holds; -1: none does.
func (l grants) at(id, epoch uint64) int {
	quota := -1
	for _, x := range l {
		if x.r.ID == id && x.from <= epoch && (x.until == 0 || x.until > epoch) {
			quota = x.r.Quota
		}
	}
	return quota
}

// P15.1, P15.2, P2, P6: what is granted, revoked and asked, by lot and in epochs that rise, held against a plain list of rules.
func TestByLot(t *testing.T) {
	revoked, again := 0, 0
	for seed := range int64(200) {
		g := rand.New(rand.NewSource(seed))
		b, l, epoch := policy.New(), grants(nil), uint64(1)
		for step := range 60 {
			id := uint64(g.Intn(4))
			switch k := g.Intn(10); {
			case k < 4:
				if l.end(id, epoch) {
					again++
				}
				l = append(l, one{rule(id, step), epoch, 0})
				b.Grant(rule(id, step), epoch)
			case k < 7:
				want := l.end(id, epoch)
				revoke(t, b, id, epoch, want)
				if want {
					revoked++
				}
			case k < 9:
				epoch += uint64(g.Intn(3))
			default:
				b = taken(t, "by lot", b.Encode())
			}
			size(t, b, len(l))
			for id := range uint64(5) {
				for e := range epoch + 3 {
					at := l.at(id, e)
					if r, ok := b.At(id, e); ok != (at >= 0) || ok && text(r) != text(rule(id, at)) {
						t.Fatalf("seed %d, step %d: At(%d, %d) = %v, %v, want %d", seed, step, id, e, r, ok, at)
					}
				}
			}
			if !bytes.Equal(b.Encode(), laid(l...)) {
				t.Fatalf("seed %d, step %d: other bytes", seed, step)
			}
		}
	}
	if revoked < 500 || again < 500 {
		t.Errorf("the lot is too even: %d, %d", revoked, again)
	}
}
