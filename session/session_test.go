package session_test

import (
	"bytes"
	"fmt"
	"math"
	"math/rand"
	"slices"
	"testing"

	"dumbwaiter/api"
	"dumbwaiter/command"
	"dumbwaiter/garble"
	"dumbwaiter/octet"
	"dumbwaiter/session"
)

const top = math.MaxUint64

// reply: an answer that is told from others by its index.
func reply(index uint64) api.Reply { return api.Reply{Epoch: 1, Index: index} }

// full: an answer with something of all.
func full(index uint64) api.Reply {
	return api.Reply{E: api.ErrQuota, Epoch: 3, Index: index,
		Gots:  []api.Got{{Has: true, Val: []byte("got")}, {}, {Has: true}},
		Scans: [][]api.Pair{{{At: math.Copysign(0, -1), Val: []byte("a")}, {At: math.Inf(1)}}, nil, {{At: math.NaN(), Val: []byte("b")}}}}
}

// text: all that is in an answer; nil and empty lists are the same there.
func text(r api.Reply) string { return fmt.Sprintf("%v", r) }

// put: Put, and what it should answer.
func put(t *testing.T, s *session.Table, of, seq uint64, r api.Reply, want api.Errno) {
	t.Helper()
	if e := s.Put(of, seq, r); e != want {
		t.Errorf("Put(%d, %d) = %d, want %d", of, seq, e, want)
	}
}

// last: is that the last answer of a session, with all that is told of the numbers around?
func last(t *testing.T, s *session.Table, of, seq uint64, want api.Reply) {
	t.Helper()
	if got := s.Last(of); got != seq {
		t.Errorf("Last(%d) = %d, want %d", of, got, seq)
	}
	if r, e := s.Get(of, seq); e != api.OK || text(r) != text(want) {
		t.Errorf("Get(%d, %d) = %v, %d, want %v", of, seq, r, e, want)
	}
	for _, n := range []uint64{0, 1, seq / 2, seq - 1} {
		if r, e := s.Get(of, n); n < seq && (e != api.ErrOld || text(r) != text(api.Reply{})) {
			t.Errorf("behind %d: Get(%d, %d) = %v, %d", seq, of, n, r, e)
		}
	}
	for _, n := range []uint64{seq + 1, seq + 2, top} {
		if r, e := s.Get(of, n); n > seq && (e != api.ErrNone || text(r) != text(api.Reply{})) {
			t.Errorf("ahead of %d: Get(%d, %d) = %v, %d", seq, of, n, r, e)
		}
	}
}

// none: was nothing of a session answered?
func none(t *testing.T, s *session.Table, of uint64) {
	t.Helper()
	if got := s.Last(of); got != 0 {
		t.Errorf("Last(%d) = %d", of, got)
	}
	for _, n := range []uint64{0, 1, 2, top} {
		if r, e := s.Get(of, n); e != api.ErrNone || text(r) != text(api.Reply{}) {
			t.Errorf("Get(%d, %d) = %v, %d", of, n, r, e)
		}
	}
}

// P14.1: the chapter's example, and rising numbers of one session.
func TestOneSession(t *testing.T) {
	s := session.New()
	none(t, s, 1)
	put(t, s, 1, 2, reply(20), api.OK)
	last(t, s, 1, 2, reply(20))
	for _, n := range []uint64{3, 4, 9, 1 << 40, top - 1, top} {
		put(t, s, 1, n, full(n), api.OK)
		last(t, s, 1, n, full(n))
		if s.Len() != 1 {
			t.Errorf("Len = %d", s.Len())
		}
		none(t, s, 0)
		none(t, s, 2)
	}
}

// P14.1, P5: what was answered stays: a Put of that number again, or of an earlier one, is ErrOld, of number 0 ErrArg, and nothing changes.
func TestPutOfOld(t *testing.T) {
	s := session.New()
	put(t, s, 1, 0, reply(1), api.ErrArg)
	none(t, s, 1)
	if s.Len() != 0 {
		t.Errorf("Len = %d", s.Len())
	}
	put(t, s, 1, 5, full(5), api.OK)
	for range 2 {
		for _, n := range []uint64{5, 4, 1} {
			put(t, s, 1, n, reply(n), api.ErrOld)
			last(t, s, 1, 5, full(5))
		}
		put(t, s, 1, 0, reply(1), api.ErrArg)
		last(t, s, 1, 5, full(5))
	}
	put(t, s, 1, 6, api.Reply{}, api.OK)
	last(t, s, 1, 6, api.Reply{})
	put(t, s, 1, 5, full(5), api.ErrOld)
	last(t, s, 1, 6, api.Reply{})
}

// P14.1: many sessions, the first and the last number among them, each by itself.
func TestManySessions(t *testing.T) {
	s := session.New()
	of := []uint64{7, 0, top, 1, 1 << 63, 8, 6}
	for round := range uint64(3) {
		for n, x := range of {
			put(t, s, x, 10*round+uint64(n)+1, full(x+round), api.OK)
		}
		for n, x := range of {
			last(t, s, x, 10*round+uint64(n)+1, full(x+round))
		}
		if s.Len() != len(of) {
			t.Errorf("Len = %d", s.Len())
		}
		none(t, s, 2)
	}
}

// P14.1, P1: of a nil one ErrNone, 0.
func TestNilTable(t *testing.T) {
	var s *session.Table
	put(t, s, 1, 1, full(1), api.ErrNone)
	none(t, s, 1)
	if s.Len() != 0 || len(s.Encode()) != 0 {
		t.Error("a nil table tells something")
	}
	s.Put(1, 0, reply(1))
	none(t, s, 1)
	zero := &session.Table{} // nothing is promised of it, but that it doesn't panic
	zero.Put(1, 1, full(1))
	zero.Get(1, 1)
	zero.Encode()
}

// one is an answer as it stands in a table's bytes.
type one struct {
	of, seq uint64
	r       api.Reply
}

// laid: a table's bytes by the words of the chapter, right or wrong.
func laid(l ...one) []byte {
	w := (&octet.Writer{}).Num(uint64(len(l)), 4)
	for _, x := range l {
		w.Num(x.of, 8).Num(x.seq, 8)
		command.LayReply(w, x.r)
	}
	return w.Done()
}

// taken: are these bytes a table's, and does it make them again?
func taken(t *testing.T, what string, p []byte) *session.Table {
	t.Helper()
	s, e := session.Decode(p)
	if e != api.OK || s == nil {
		t.Fatalf("%s: Decode(%x) = %v, %d", what, p, s, e)
	}
	if got := s.Encode(); !bytes.Equal(got, p) {
		t.Errorf("%s: %x, then %x", what, p, got)
	}
	return s
}

// refused: are these bytes no table's?
func refused(t *testing.T, what string, p []byte) {
	t.Helper()
	if s, e := session.Decode(p); e != api.ErrForm || s != nil {
		t.Errorf("%s: Decode(%x) = %v, %d", what, p, s, e)
	}
}

// either: are these bytes no table's, or of one that makes them again?
func either(t *testing.T, what string, p []byte) bool {
	t.Helper()
	kept := bytes.Clone(p)
	_, e := session.Decode(p)
	if e == api.OK {
		taken(t, what, p)
	} else {
		refused(t, what, p)
	}
	if !bytes.Equal(p, kept) {
		t.Errorf("%s: what was handed in is changed", what)
	}
	return e == api.OK
}

// P14.1: the bytes, one by one.
func TestEncode(t *testing.T) {
	s := session.New()
	if got := s.Encode(); !bytes.Equal(got, make([]byte, 4)) {
		t.Errorf("of nothing: %x", got)
	}
	put(t, s, 2, 0x0102030405060708, api.Reply{E: api.ErrOld, Epoch: 4, Index: 5, Gots: []api.Got{{Has: true, Val: []byte("hi")}}}, api.OK)
	put(t, s, 1, 3, reply(9), api.OK)
	put(t, s, 1, 6, api.Reply{Index: 7, Scans: [][]api.Pair{{{At: 1}}}}, api.OK)
	want := "\x02\x00\x00\x00" +
		"\x01\x00\x00\x00\x00\x00\x00\x00" + "\x06\x00\x00\x00\x00\x00\x00\x00" +
		"\x00" + "\x00\x00\x00\x00\x00\x00\x00\x00" + "\x07\x00\x00\x00\x00\x00\x00\x00" + "\x00\x00\x00\x00" +
		"\x01\x00\x00\x00" + "\x01\x00\x00\x00" + "\x00\x00\x00\x00\x00\x00\xf0\xbf" + "\x00\x00\x00\x00" +
		"\x02\x00\x00\x00\x00\x00\x00\x00" + "\x08\x07\x06\x05\x04\x03\x02\x01" +
		"\x0a" + "\x04\x00\x00\x00\x00\x00\x00\x00" + "\x05\x00\x00\x00\x00\x00\x00\x00" +
		"\x01\x00\x00\x00" + "\x01" + "\x02\x00\x00\x00hi" + "\x00\x00\x00\x00"
	for range 2 {
		if got := s.Encode(); string(got) != want {
			t.Errorf("%x, want %x", got, want)
		}
	}
	u := taken(t, "by hand", []byte(want))
	last(t, u, 1, 6, api.Reply{Index: 7, Scans: [][]api.Pair{{{At: 1}}}})
	last(t, u, 2, 0x0102030405060708, api.Reply{E: api.ErrOld, Epoch: 4, Index: 5, Gots: []api.Got{{Has: true, Val: []byte("hi")}}})
	if none(t, u, 3); u.Len() != 2 {
		t.Errorf("Len = %d", u.Len())
	}
	if u := taken(t, "of nothing", make([]byte, 4)); u.Len() != 0 {
		t.Errorf("Len = %d", u.Len())
	}
}

// P14.1: sessions by their numbers, in whatever order they came; and what was read is put to as what it was made of.
func TestDecode(t *testing.T) {
	l := []one{{0, 1, full(1)}, {1, top, reply(2)}, {255, 3, full(3)}, {256, 3, reply(4)}, {1 << 63, 1, full(5)}, {top, 9, full(6)}}
	for _, step := range []int{1, 5} { // both go round all six of them
		s := session.New()
		for n := range l {
			x := l[(n+1)*step%len(l)]
			put(t, s, x.of, x.seq, x.r, api.OK)
		}
		if got := s.Encode(); !bytes.Equal(got, laid(l...)) {
			t.Errorf("by steps of %d: %x", step, got)
		}
	}
	u := taken(t, "edges", laid(l...))
	for _, x := range l {
		last(t, u, x.of, x.seq, x.r)
		put(t, u, x.of, x.seq, reply(0), api.ErrOld)
	}
	put(t, u, 255, 4, reply(7), api.OK)
	put(t, u, 2, 1, reply(8), api.OK)
	last(t, u, 255, 4, reply(7))
	last(t, u, 2, 1, reply(8))
}

// some: bytes of a table that is right.
func some() []byte {
	return laid(one{0, 1, reply(3)}, one{2, 7, full(4)}, one{300, 2, api.Reply{Gots: make([]api.Got, 2)}})
}

// P14.1: each shorter part of right bytes, and bytes with more behind them.
func TestShorterAndLonger(t *testing.T) {
	p := some()
	taken(t, "whole", p)
	for n := range p {
		refused(t, "shorter", p[:n:n])
		either(t, "its end alone", p[n+1:])
	}
	for b := range 256 {
		refused(t, "one more", append(bytes.Clone(p), byte(b)))
	}
	refused(t, "twice", append(bytes.Clone(p), p...))
	refused(t, "nothing with more", make([]byte, 5))
	refused(t, "nil", nil)
}

// P14.1: sessions that do not stand as Encode lays them, and a number 0.
func TestBytesOfNone(t *testing.T) {
	a, b, c := one{1, 5, reply(1)}, one{2, 3, full(2)}, one{3, 1, reply(3)}
	taken(t, "right", laid(a, b, c))
	refused(t, "they fall", laid(b, a))
	refused(t, "they fall at the end", laid(a, c, b))
	refused(t, "one twice, with the same", laid(a, a))
	refused(t, "one twice, the later one behind", laid(a, one{1, 6, reply(2)}))
	refused(t, "one twice, the earlier one behind", laid(a, one{1, 4, reply(2)}))
	refused(t, "0 twice", laid(one{0, 1, reply(1)}, one{0, 2, reply(1)}))
	refused(t, "number 0", laid(one{1, 0, reply(1)}))
	refused(t, "number 0, behind", laid(a, one{2, 0, reply(1)}, c))
	refused(t, "one too many told", append([]byte{3}, laid(a, b)[1:]...))
	refused(t, "one too few told", append([]byte{1}, laid(a, b)[1:]...))
	refused(t, "far too many", []byte{255, 255, 255, 255})
	refused(t, "far too many Gots", (&octet.Writer{}).Num(1, 4).Num(1, 8).Num(1, 8).Num(0, 17).Num(math.MaxUint32, 4).Num(0, 4).Done())
}

// P14.1: a reply with a Flag, a Rank that is none; with more of something than may be.
func TestRepliesOfNone(t *testing.T) {
	head := 4 + 16 + 17
	got, scan := one{1, 1, api.Reply{Gots: []api.Got{{Has: true}}}}, one{1, 1, api.Reply{Scans: [][]api.Pair{{{At: 1}}}}}
	for b := 2; b < 256; b++ {
		p := laid(got)
		p[head+4] = byte(b)
		refused(t, "a Flag that is none", p)
	}
	for _, b := range []byte{0, 255} {
		p := laid(scan)
		copy(p[head+4+4+4:], []byte{1, 1, 1, 1, 1, 1, b, b})
		refused(t, "a Rank that is none", p)
	}
	for more := range 2 {
		for what, r := range map[string]api.Reply{
			"Gots":  {Gots: make([]api.Got, api.MaxOps+more)},
			"Scans": {Scans: make([][]api.Pair, api.MaxOps+more)},
			"pairs": {Scans: [][]api.Pair{make([]api.Pair, api.MaxScan+more)}},
			"a Val": {Gots: []api.Got{{Has: true, Val: make([]byte, api.MaxValue+more)}}},
		} {
			if p := laid(one{1, 1, r}); more == 0 {
				last(t, taken(t, what, p), 1, 1, r)
			} else {
				refused(t, what, p)
			}
		}
	}
}

// P14.1: one byte another one: then they are of no table, or of another one, that makes them.
func TestTurned(t *testing.T) {
	for p := range garble.Turned(some()) {
		either(t, "turned", p)
	}
}

// P14.1, P1: bytes by lot: Decode ends, and what it takes makes the same bytes again.
func TestDecodeByLot(t *testing.T) {
	g := rand.New(rand.NewSource(141))
	took := 0
	for range 20000 {
		if either(t, "by lot", garble.ByLot(some(), g.Intn)) {
			took++
		}
	}
	if took < 500 {
		t.Errorf("the lot is too even: %d", took)
	}
}

// answers is what the chapter says of a table, as a plain list of all that was put and taken.
type answers []one

// of: the last answer of a session; number 0: none.
func (l answers) of(session uint64) one {
	found := one{of: session}
	for _, x := range l {
		if x.of == session && x.seq > found.seq {
			found = x
		}
	}
	return found
}

// sessions: all of them, rising, each with its last answer.
func (l answers) sessions() []one {
	var out []one
	for _, x := range l {
		if l.of(x.of).seq == x.seq {
			out = append(out, x)
		}
	}
	slices.SortFunc(out, func(a, b one) int {
		if a.of < b.of {
			return -1
		}
		return 1
	})
	return out
}

// P14.1, P2, P5: what is put and asked, by lot, held against a plain list of answers.
func TestByLot(t *testing.T) {
	outcomes := map[api.Errno]int{}
	for seed := range int64(200) {
		g := rand.New(rand.NewSource(seed))
		s, l := session.New(), answers(nil)
		for step := range 100 {
			of, seq := uint64(g.Intn(6)), uint64(g.Intn(20))
			was := l.of(of).seq
			r := full(uint64(step))
			if g.Intn(2) == 0 {
				r = reply(uint64(step))
			}
			want := api.OK
			switch {
			case seq == 0:
				want = api.ErrArg
			case seq <= was:
				want = api.ErrOld
			default:
				l = append(l, one{of, seq, r})
			}
			kept := text(r)
			put(t, s, of, seq, r, want)
			if text(r) != kept {
				t.Fatal("what was handed in is changed")
			}
			outcomes[want]++
			if g.Intn(10) == 0 {
				s = taken(t, "by lot", s.Encode())
			}
			holds(t, s, l)
		}
	}
	for _, e := range []api.Errno{api.OK, api.ErrArg, api.ErrOld} {
		if outcomes[e] < 500 {
			t.Errorf("the lot is too even: %v", outcomes)
		}
	}
}

// holds: does a table tell just what a list does?
func holds(t *testing.T, s *session.Table, l answers) {
	t.Helper()
	all := l.sessions()
	if s.Len() != len(all) || !bytes.Equal(s.Encode(), laid(all...)) {
		t.Fatalf("Len %d, want %d; or other bytes", s.Len(), len(all))
	}
	for of := range uint64(8) {
		if x := l.of(of); x.seq == 0 {
			none(t, s, of)
		} else {
			last(t, s, of, x.seq, x.r)
		}
	}
	if t.Failed() {
		t.FailNow()
	}
}
