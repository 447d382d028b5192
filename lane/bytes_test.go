package lane_test

import (
	"bytes"
	"fmt"
	"math"
	"math/rand"
	"testing"

	"dumbwaiter/api"
	"dumbwaiter/garble"
	"dumbwaiter/lane"
	"dumbwaiter/lay"
	"dumbwaiter/locks"
	"dumbwaiter/mvcc"
	"dumbwaiter/octet"
	"dumbwaiter/policy"
	"dumbwaiter/session"
)

// much: a state with something of all.
func much(t *testing.T) *lane.State {
	t.Helper()
	s := lane.New(3)
	stand(t, s, 1, 4, write(1, "v"), del(2), write(nan, "n"))
	s.Apply(5, grant(api.Rule{ID: 7, From: 1, Hi: 9, Quota: 2}, true))
	s.Apply(6, give(id(5, 1), 1, rule(7, 0, 2), write(1, "long")))
	reach(t, s, 2)
	s.Apply(7, give(id(5, 2), 2, rule(7, 0, 2), del(minusNought)))
	s.Apply(8, give(id(5, 3), 2, rule(7, 2, 2), write(1, "")))
	s.Apply(9, give(id(lane.Inner, 1), 3, rule(7, 2, 2), write(1, "")))
	s.Apply(10, decide(id(1, 1), 2, 3, full(api.OK), api.Part{Shard: 1, Writes: []api.Write{write(1, "w"), del(3)}}, api.Part{}))
	s.Apply(11, decide(id(1, 2), 9, 1<<15, full(api.ErrConflict), api.Part{Writes: []api.Write{write(1, "w")}}))
	s.Apply(12, decide(id(2, 9), 2, 1, full(api.OK)))
	s.Apply(13, prepare(api.Hold{ID: id(1, 1), Epoch: 2, Gets: []float64{1}, Scans: [][2]float64{{3, 4}}, Puts: []float64{2}, Data: []byte("d")}))
	s.Apply(14, prepare(api.Hold{ID: id(top, 1), Epoch: 2}))
	s.Apply(15, prepare(api.Hold{ID: id(top, 1), Epoch: 5, Puts: []float64{8}}))
	s.Apply(16, grant(api.Rule{ID: 7}, false))
	return s
}

// refused: are these bytes no state's?
func refused(t *testing.T, what string, p []byte) {
	t.Helper()
	if s, e := lane.Decode(p); e != api.ErrForm || s != nil {
		t.Errorf("%s: Decode(%x) = %v, %d", what, p, s, e)
	}
}

// body: what is sealed in a state's bytes.
func body(t *testing.T, s *lane.State) []byte {
	t.Helper()
	p, e := octet.Open(s.Encode())
	if e != api.OK {
		t.Fatalf("it isn't sealed: %d", e)
	}
	return p
}

// P16.3: a state with something of all, one with nothing, and whatever wide.
func TestDecode(t *testing.T) {
	s := much(t)
	u := again(t, "much", s)
	x := id(5, 4)
	for _, s := range []*lane.State{s, u} {
		same(t, "Out", []any{s.Out(0), s.Out(1), s.Out(2)}, []any{
			[]api.Item{{N: 1, Rule: 7, Epoch: 1, W: write(1, "lon")}, {N: 2, Rule: 7, Epoch: 2, W: del(minusNought)}}, []api.Item{},
			[]api.Item{{To: 2, N: 1, Rule: 7, Epoch: 2, W: write(1, "\x00\x00\x00")}}})
		same(t, "numbers", []any{s.Epoch(), s.May(), s.Last(1), s.Last(5), len(s.Open()), len(s.Holders())}, []any{2, false, 2, 3, 3, 2})
		apply(t, "the Quota is used", s, 20, give(x, 2, rule(7, 1, 2), write(1, "v")), decided(x, at(api.ErrQuota, 2, 20)))
		apply(t, "held", s, 21, closing(2), nothing)
		apply(t, "Finish", s, 22, finish(id(1, 1), api.OK, 2, 10, write(1, "w")), finished(id(1, 1)))
		apply(t, "Close", s, 23, closing(2), closed)
		x := id(5, 5)
		apply(t, "a new epoch", s, 24, give(x, 3, rule(7, 1, 2), write(1, "v")), decided(x, at(api.OK, 3, 24)))
	}
	if !bytes.Equal(s.Encode(), u.Encode()) {
		t.Error("they are not one any more")
	}
	for _, wide := range []int{math.MinInt, -1, 0, 1, api.MaxValue, 1 << 40, math.MaxInt} {
		u := again(t, fmt.Sprint("wide ", wide), lane.New(wide))
		if wide < 1<<20 {
			given(t, u, rule(1, 0, 1), api.OK)
			same(t, "Pad", u.Out(0)[0].W, lane.Pad(write(1, "v"), wide))
		}
		nobody(t, "new", again(t, "new", lane.New(wide)))
	}
}

// P16.3: each shorter part of right bytes, bytes with more behind them, and with one byte another one.
func TestOtherBytes(t *testing.T) {
	refused(t, "nil", nil)
	for _, s := range []*lane.State{lane.New(4), much(t)} {
		p := s.Encode()
		for _, q := range garble.Parts(p) {
			refused(t, "shorter", q)
		}
		for b := range 256 {
			refused(t, "one more", append(bytes.Clone(p), byte(b)))
		}
		refused(t, "twice", append(bytes.Clone(p), p...))
		for q := range garble.Turned(p) {
			refused(t, "turned", q)
		}
	}
}

// either: are these bytes, that are sealed anew, no state's, or of one that makes them again, and can be used?
func either(t *testing.T, what string, p []byte) bool {
	t.Helper()
	p = octet.Seal(p)
	s, e := lane.Decode(p)
	if e != api.OK {
		refused(t, what, p)
		return false
	}
	if !bytes.Equal(s.Encode(), p) {
		t.Errorf("%s: %x, then %x", what, p, s.Encode())
	}
	return true
}

// P16.3, P1: the same of what is sealed: shorter parts, more, and one byte another one are sealed anew.
func TestSealedAnew(t *testing.T) {
	p := body(t, much(t))
	if !either(t, "right", p) {
		t.Error("right bytes are refused")
	}
	for n := range p {
		refused(t, "shorter", octet.Seal(p[:n]))
		either(t, "its end alone", p[n+1:])
	}
	for b := range 256 {
		refused(t, "one more", octet.Seal(append(bytes.Clone(p), byte(b))))
	}
	n := 0
	for q := range garble.Turned(p) {
		if n++; n%7 == 0 { // one of seven is enough, and comes to each byte often
			either(t, "turned", q)
		}
	}
}

// P16.3, P1: bytes by lot: Decode ends, and what it takes makes the same bytes again, and goes on.
func TestDecodeByLot(t *testing.T) {
	g := lot{rand.New(rand.NewSource(163)), newRecord(3)}
	p := body(t, much(t))
	took := 0
	for range 20000 {
		q := garble.ByLot(p, g.Intn)
		if !either(t, "by lot", q) {
			continue
		}
		took++
		s, _ := lane.Decode(octet.Seal(q))
		g.m.epoch = s.Epoch()
		for n := range uint64(10) {
			s.Apply(n, g.command())
		}
		again(t, "by lot, then more", s)
	}
	if took < 500 {
		t.Errorf("the lot is too even: %d", took)
	}
}

// plain is what is sealed of a state, in parts.
type plain struct {
	epoch, wide uint64
	parts       [4][]byte // what is held, what stands, the answers, the rules
	open        []api.Decision
	out         []api.Item
}

func (x plain) seal() []byte {
	w := (&octet.Writer{}).Num(x.epoch, 8).Num(x.wide, 8)
	for _, p := range x.parts {
		w.Bytes(p)
	}
	w.Num(uint64(len(x.open)), 4)
	for _, d := range x.open {
		w.Num(d.ID.Session, 8).Num(d.ID.Seq, 8).Num(uint64(d.E), 8).Num(d.Epoch, 8).Num(d.Index, 8).Num(d.Shards, 8).Num(uint64(len(d.Parts)), 4)
		for _, y := range d.Parts {
			w.Num(uint64(y.Shard), 8)
			lay.Writes(w, y.Writes)
		}
	}
	w.Num(uint64(len(x.out)), 4)
	for _, y := range x.out {
		w.Num(uint64(y.To), 8).Num(y.Rule, 8).Num(y.Epoch, 8)
		lay.Write(w, y.W)
	}
	return octet.Seal(w.Done())
}

// right: bytes of a state of the epoch 3, with something of all.
func right() plain {
	held, stands, answered, rules := locks.New(), mvcc.New(), session.New(), policy.New()
	held.Take(api.Hold{ID: id(1, 1), Epoch: 3})
	held.Take(api.Hold{ID: id(lane.Inner, 1), Epoch: 4})
	stands.Put(1, mvcc.Version{Epoch: 9, Index: 1})
	answered.Put(1, 2, at(api.OK, 3, 10))
	answered.Put(2, 5, at(api.ErrFull, 9, 11))
	answered.Put(lane.Inner, 5, at(api.OK, 1, 1))
	rules.Grant(api.Rule{ID: 7}, 2)
	return plain{3, 4, [4][]byte{held.Encode(), stands.Encode(), answered.Encode(), rules.Encode()},
		[]api.Decision{
			{ID: id(1, 1), Epoch: 1, Index: 9, Shards: 1, Parts: []api.Part{{Shard: 1, Writes: []api.Write{write(1, "v"), del(2)}}}},
			{ID: id(1, 2), Epoch: 3, Index: 10, Shards: 1},
			{ID: id(2, 5), E: api.ErrFull, Epoch: 9, Index: 11, Shards: 2}},
		[]api.Item{{To: -1, Rule: 7, Epoch: 3, W: write(1, "four")}, {Rule: 7, Epoch: 1, W: del(1)}, {Rule: 7, Epoch: 3, W: write(2, "")}, {To: 2, Rule: 7, Epoch: 2, W: write(3, "v")}}}
}

// P16.3: bytes of what no state is: an epoch that never is open; a hold of one that isn't open; what is open, though it wasn't answered so; what can't have been released.
func TestBytesOfNone(t *testing.T) {
	s, e := lane.Decode(right().seal())
	if e != api.OK || !bytes.Equal(s.Encode(), right().seal()) || s.Epoch() != 3 || len(s.Open()) != 3 || len(s.Out(-1)) != 1 || len(s.Out(0)) != 2 {
		t.Fatalf("right bytes: %d", e)
	}
	for what, change := range map[string]func(*plain){
		"the epoch 0":                      func(x *plain) { *x = plain{0, 4, x.parts, nil, nil}; x.parts[0] = locks.New().Encode() },
		"wide below 0":                     func(x *plain) { *x = plain{3, top, x.parts, nil, nil} },
		"a hold of an earlier epoch":       func(x *plain) { x.epoch = 4 },
		"a hold of a later one":            func(x *plain) { *x = plain{2, 4, x.parts, nil, nil} },
		"what is held is none":             func(x *plain) { x.parts[0] = []byte{1} },
		"what stands is none":              func(x *plain) { x.parts[1] = []byte{1} },
		"the answers are none":             func(x *plain) { x.parts[2], x.open = []byte{1}, nil },
		"the rules are none":               func(x *plain) { x.parts[3] = []byte{1} },
		"nothing of a part":                func(x *plain) { x.parts[3] = nil },
		"what is open falls":               func(x *plain) { x.open[0], x.open[1] = x.open[1], x.open[0] },
		"sessions fall":                    func(x *plain) { x.open[1], x.open[2] = x.open[2], x.open[1] },
		"one is open twice":                func(x *plain) { x.open = append(x.open, x.open[2]) },
		"no shards":                        func(x *plain) { x.open[0].Shards = 0 },
		"number 0":                         func(x *plain) { x.open[0].ID.Seq = 0 },
		"it wasn't answered":               func(x *plain) { x.open[2].ID.Seq = 6 },
		"its session wasn't":               func(x *plain) { x.open[2].ID.Session = 3 },
		"another E was answered":           func(x *plain) { x.open[2].E = api.ErrOld },
		"another epoch was":                func(x *plain) { x.open[1].Epoch = 2 },
		"another index was":                func(x *plain) { x.open[1].Index++ },
		"it is OK, of the epoch 0":         func(x *plain) { x.open[0].Epoch = 0 },
		"it is OK, of a later epoch":       func(x *plain) { x.open[0].Epoch = 4 },
		"parts of what isn't OK":           func(x *plain) { x.open[2].Parts = x.open[0].Parts },
		"an error of what is released":     func(x *plain) { x.open[2].ID.Session = lane.Inner; x.open[2].ID.Seq = 4 },
		"labels fall":                      func(x *plain) { x.out[0].To = 1 },
		"epochs fall at a label":           func(x *plain) { x.out[1].Epoch, x.out[2].Epoch = 2, 1 },
		"it was released in the epoch 0":   func(x *plain) { x.out[1].Epoch = 0 },
		"it was released in a later epoch": func(x *plain) { x.out[2].Epoch = 4 },
		"a Val of more than wide":          func(x *plain) { x.out[0].W.Val = []byte("fives") },
		"Del with a Val":                   func(x *plain) { x.out[1].W.Val = []byte("v") },
	} {
		x := right()
		change(&x)
		refused(t, what, x.seal())
	}
}

// P16.3: what a state may be is taken, at these edges.
func TestBytesAtEdges(t *testing.T) {
	for what, change := range map[string]func(*plain){
		"an earlier one of what is released": func(x *plain) {
			x.open = append(x.open, api.Decision{ID: id(lane.Inner, 4), Epoch: 1, Shards: 1})
		},
		"an error of an earlier one": func(x *plain) { x.open[0].E, x.open[0].Parts, x.open[0].Epoch = api.ErrRule, nil, 0 },
		"all shards":                 func(x *plain) { x.open[0].Shards = top },
		"a great wide":               func(x *plain) { x.wide = math.MaxInt64 },
		"far labels":                 func(x *plain) { x.out[0].To, x.out[3].To = math.MinInt, math.MaxInt },
		"one epoch at a label":       func(x *plain) { x.out[1].Epoch = 3 },
		"nothing is open":            func(x *plain) { x.open = nil },
		"nothing was released":       func(x *plain) { x.out = nil },
		"long things that are open":  func(x *plain) { x.open[0].Parts = make([]api.Part, 2*api.MaxShards) },
	} {
		x := right()
		change(&x)
		if s, e := lane.Decode(x.seal()); e != api.OK || !bytes.Equal(s.Encode(), x.seal()) {
			t.Errorf("%s: %d", what, e)
		}
	}
}

// P16.3: counts that are far too many make nothing long.
func TestFarTooMany(t *testing.T) {
	x := right()
	x.open, x.out = nil, nil
	p, _ := octet.Open(x.seal())
	for _, n := range []int{4, 8} {
		q := bytes.Clone(p)
		copy(q[len(q)-n:], []byte{255, 255, 255, 255})
		refused(t, "far too many", octet.Seal(q))
	}
}
