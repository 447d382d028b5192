package lane_test

import (
	"bytes"
	"fmt"
	"math"
	"slices"
	"testing"

	"dumbwaiter/api"
	"dumbwaiter/lane"
)

// full: an answer with something of all, whose epoch and index are to be another one.
func full(e api.Errno) api.Reply {
	return api.Reply{E: e, Epoch: 77, Index: 78, Gots: []api.Got{got("g"), {}},
		Scans: [][]api.Pair{{pair(nan, "p"), pair(1, "")}, nil}}
}

// settled: an answer, of an epoch, at an index.
func settled(r api.Reply, epoch, index uint64) api.Reply {
	r.Epoch, r.Index = epoch, index
	return r
}

// P16.1: a Decide with each E, in the open epoch and in others, with Shards 0 and not, of sessions below Inner, at it, and above.
func TestDecide(t *testing.T) {
	parts := []api.Part{{Shard: 1, Writes: []api.Write{write(1, "v"), del(2)}}, {Shard: 2}}
	for e := range api.ErrLattice + 1 {
		for _, epoch := range []uint64{0, 1, 2, 3, top} {
			for _, shards := range []uint64{0, 1, 6, 1 << 15} {
				for _, session := range []uint64{0, 1, lane.Inner - 1, lane.Inner, top} {
					s := lane.New(0)
					reach(t, s, 2)
					what := fmt.Sprintf("E %d, epoch %d, shards %d, session %d", e, epoch, shards, session)
					x, want := id(session, 3), settled(full(e), epoch, 9)
					if e == api.OK && epoch != 2 {
						want = at(api.ErrEpoch, epoch, 9)
					}
					c := decide(x, epoch, shards, full(e), parts...)
					if want.E != api.OK && session >= lane.Inner {
						unchanged(t, what, s, func() { apply(t, what, s, 9, c, nothing) })
						continue
					}
					apply(t, what, s, 9, c, decided(x, want))
					r, f := s.Answer(x)
					same(t, what, []any{r, f, s.Last(session)}, []any{want, api.OK, 3})
					d := api.Decision{ID: x, E: want.E, Epoch: epoch, Index: 9, Shards: shards}
					if want.E == api.OK {
						d.Parts = parts
					}
					o, ok := s.Opened(x)
					if shards == 0 {
						d = api.Decision{}
					}
					same(t, what, []any{o, ok, len(s.Open()) == 1}, []any{d, shards != 0, shards != 0})
				}
			}
		}
	}
}

// P16.1, P5: of a number that was answered nothing; of an earlier one ErrOld alone; of 0 as of an earlier one, if one was answered: and no second thing is open.
func TestDecideOfOld(t *testing.T) {
	for _, session := range []uint64{1, lane.Inner} {
		for _, c := range []api.Command{decide(id(session, 0), 1, 1, full(0)), give(id(session, 0), 1, rule(1, 0, 9), write(1, "v"))} {
			s := lane.New(4)
			none := c
			unchanged(t, "of number 0", s, func() { apply(t, "of number 0", s, 2, none, nothing) })
			c.ID.Seq = 5
			if f := s.Apply(3, c); f.Kind != lane.Decided || f.R.E != api.OK {
				t.Errorf("%v", f)
			}
			unchanged(t, "of old", s, func() {
				apply(t, "of that number", s, 4, c, nothing)
				apply(t, "forgotten", s, 4, c, nothing)
				for _, seq := range []uint64{0, 1, 4} {
					c.ID.Seq = seq
					apply(t, "of an earlier one", s, 5, c, decided(c.ID, api.Reply{E: api.ErrOld}))
				}
			})
			c.ID.Seq = 5
			apply(t, "Forget", s, 6, forget(c.ID), nothing)
			unchanged(t, "forgotten", s, func() { apply(t, "forgotten", s, 7, c, nothing) })
			for n, want := range []api.Errno{api.ErrOld, api.ErrOld, api.ErrOld, api.ErrOld, api.ErrOld, api.OK, api.ErrNone, api.ErrNone} {
				if _, e := s.Answer(id(session, uint64(n))); e != want {
					t.Errorf("Answer of %d: %d, want %d", n, e, want)
				}
			}
		}
	}
}

// P16.1: an error of an earlier number of a session below Inner is ErrOld too; of one of Inner or above it is nothing, whatever was answered.
func TestDecideOfOldErrors(t *testing.T) {
	for _, session := range []uint64{1, lane.Inner - 1, lane.Inner, top} {
		s := lane.New(4)
		s.Apply(2, decide(id(session, 5), 1, 1, api.Reply{}))
		for _, c := range []api.Command{decide(id(session, 4), 1, 1, full(api.ErrConflict)), decide(id(session, 4), 2, 1, full(api.OK))} {
			want := decided(c.ID, api.Reply{E: api.ErrOld})
			if session >= lane.Inner {
				want = nothing
			}
			unchanged(t, "of old", s, func() { apply(t, fmt.Sprint("session ", session), s, 3, c, want) })
			c.ID.Seq = 5
			unchanged(t, "of old", s, func() { apply(t, fmt.Sprint("session ", session), s, 4, c, nothing) })
		}
	}
}

// P16.1: Forget of what isn't open is nothing; of one of many it is that one alone.
func TestForget(t *testing.T) {
	s := lane.New(0)
	for seq := range uint64(3) {
		s.Apply(seq, decide(id(1, seq+1), 1, 1, api.Reply{}))
	}
	for _, x := range []api.ID{id(1, 0), id(1, 4), id(0, 1), id(2, 1), {}} {
		unchanged(t, "it isn't open", s, func() { apply(t, "it isn't open", s, 5, forget(x), nothing) })
	}
	apply(t, "Forget", s, 5, forget(id(1, 2)), nothing)
	unchanged(t, "once more", s, func() { apply(t, "once more", s, 5, forget(id(1, 2)), nothing) })
	l := s.Open()
	same(t, "the others", []any{len(l), l[0].ID, l[1].ID}, []any{2, id(1, 1), id(1, 3)})
}

// P16.1: a Give of each E, in the open epoch and in others, with no write, one, and more.
func TestGive(t *testing.T) {
	for e := range api.ErrLattice + 1 {
		for _, epoch := range []uint64{0, 1, 2, 3, top} {
			for n := range 3 {
				for _, session := range []uint64{1, lane.Inner, top} {
					s := lane.New(4)
					reach(t, s, 2)
					x, want := id(session, 3), e
					switch {
					case e != api.OK:
					case epoch != 2:
						want = api.ErrEpoch
					case n != 1:
						want = api.ErrArg
					}
					c := give(x, epoch, rule(6, 5, 1), []api.Write{write(1, "v"), write(2, "w")}[:n]...)
					c.R = full(e)
					what := fmt.Sprintf("E %d, epoch %d, %d writes", e, epoch, n)
					apply(t, what, s, 9, c, decided(x, at(want, epoch, 9)))
					r, f := s.Answer(x)
					same(t, what, []any{r, f, len(s.Open())}, []any{at(want, epoch, 9), api.OK, 0})
					var l []api.Item
					if want == api.OK {
						l = []api.Item{{To: 5, N: 1, Rule: 6, Epoch: 2, W: write(1, "v\x00\x00\x00")}}
					}
					same(t, what, s.Out(5), l)
				}
			}
		}
	}
}

// P16.1: several errors at once: the first is told.
func TestGiveWithManyErrors(t *testing.T) {
	s := lane.New(4)
	c := give(id(1, 1), 2, rule(1, 0, 0))
	c.R.E = api.ErrRule
	for n, want := range []api.Errno{api.ErrRule, api.ErrEpoch, api.ErrArg, api.ErrQuota, api.OK} {
		c.ID.Seq++
		apply(t, fmt.Sprint(n), s, 5, c, decided(c.ID, at(want, c.Epoch, 5)))
		switch n {
		case 0:
			c.R.E = api.OK
		case 1:
			c.Epoch = 1
		case 2:
			c.Writes = []api.Write{write(1, "v")}
		case 3:
			c.Rule.Quota = 1
		}
	}
}

// given: Give of one thing more, and what should be answered.
func given(t *testing.T, s *lane.State, r api.Rule, want api.Errno) {
	t.Helper()
	x := id(40, s.Last(40)+1)
	apply(t, fmt.Sprintf("Give by %v", r), s, 5, give(x, s.Epoch(), r, write(1, "v")), decided(x, at(want, s.Epoch(), 5)))
}

// P16.1, P6: things are released by a rule up to its Quota, in one epoch and in the next; of one ID, to many labels.
func TestQuota(t *testing.T) {
	s := lane.New(4)
	for range 3 {
		for n := range 3 {
			given(t, s, rule(1, n, 3), api.OK)
		}
		for n := range 4 {
			given(t, s, rule(1, n, 3), api.ErrQuota)
		}
		given(t, s, rule(2, 0, 1), api.OK)
		given(t, s, rule(2, 0, 1), api.ErrQuota)
		given(t, s, rule(1, 0, 4), api.OK)
		given(t, s, rule(1, 0, 2), api.ErrQuota)
		given(t, s, rule(3, 0, 0), api.ErrQuota)
		given(t, s, rule(3, 0, -1), api.ErrQuota)
		given(t, s, rule(3, 0, math.MaxInt), api.OK)
		reach(t, s, s.Epoch()+1)
	}
	reach(t, s, 9)
	given(t, s, rule(1, 0, 1), api.OK)
	given(t, s, rule(1, 0, 1), api.ErrQuota)
}

// P16.1: what wasn't released, or wasn't answered, doesn't count.
func TestQuotaOfErrors(t *testing.T) {
	s := lane.New(4)
	given(t, s, rule(1, 0, 2), api.OK)
	c := give(id(40, 1), 1, rule(1, 0, 2), write(1, "v"))
	apply(t, "of that number", s, 5, c, nothing)
	c.ID.Seq, c.R.E = 2, api.ErrLong
	apply(t, "an error", s, 5, c, decided(c.ID, at(api.ErrLong, 1, 5)))
	c.ID.Seq, c.R.E = 1, api.OK
	apply(t, "of an earlier one", s, 5, c, decided(c.ID, api.Reply{E: api.ErrOld}))
	same(t, "Out", len(s.Out(0)), 1)
	given(t, s, rule(1, 0, 2), api.OK)
	given(t, s, rule(1, 0, 2), api.ErrQuota)
	same(t, "Out", len(s.Out(0)), 2)
}

// P16.2: what was released to each label, in order, by its number there.
func TestOut(t *testing.T) {
	s := lane.New(3)
	var want [4][]api.Item
	for n := range 30 {
		to, w := n*n%4, write(float64(n), fmt.Sprint(n))
		if n%5 == 0 {
			w = api.Write{At: float64(n), Del: true, Val: []byte("v")}
		}
		x := id(uint64(n), 1)
		apply(t, "Give", s, 5, give(x, s.Epoch(), rule(uint64(n%7), to, 9), w), decided(x, at(api.OK, s.Epoch(), 5)))
		want[to] = append(want[to], api.Item{To: to, N: uint64(len(want[to])) + 1, Rule: uint64(n % 7), Epoch: s.Epoch(), W: lane.Pad(w, 3)})
		if n%4 == 0 {
			reach(t, s, s.Epoch()+1)
		}
	}
	for to, l := range want {
		same(t, fmt.Sprint("to ", to), s.Out(to), l)
	}
	for _, to := range []int{-1, 4, math.MaxInt, math.MinInt} {
		same(t, "to none", s.Out(to), []api.Item{})
	}
	given(t, s, rule(1, -7, 9), api.OK)
	same(t, "to what is no label", s.Out(-7)[0].N, 1)
}

// P16.2: Pad of a value that is shorter, as long, longer; with wide 0 and below; of a write with Del.
func TestPad(t *testing.T) {
	for _, wide := range []int{math.MinInt, -1, 0, 1, 2, 3, 4, 300} {
		for _, val := range []string{"", "a", "ab", "abc", "\x00", "abcd"} {
			for _, w := range []api.Write{write(minusNought, val), {At: nan, Del: true, Val: []byte(val)}} {
				kept, want := text(w), w
				want.Val = nil
				if !w.Del && wide > 0 {
					want.Val = append([]byte(val), make([]byte, 300)...)[:wide]
				}
				got := lane.Pad(w, wide)
				same(t, fmt.Sprintf("Pad(%v, %d)", w, wide), got, want)
				if text(w) != kept {
					t.Error("what was handed in is changed")
				}
				if len(got.Val) > 0 {
					got.Val[0]++
					same(t, "what was handed in, written over", text(w), kept)
				}
			}
		}
	}
	same(t, "nil", lane.Pad(api.Write{At: 1}, 2), write(1, "\x00\x00"))
}

// P16.1, P16.2: what is released is padded to the state's wide, whatever that is; a great one costs nothing till it is told.
func TestWide(t *testing.T) {
	for _, wide := range []int{math.MinInt, -1, 0, 1, 2, 5, api.MaxValue} {
		s := lane.New(wide)
		given(t, s, rule(1, 0, 9), api.OK)
		x := id(41, 1)
		s.Apply(1, give(x, 1, rule(1, 0, 9), del(1)))
		same(t, fmt.Sprint("wide ", wide), s.Out(0), []api.Item{
			{N: 1, Rule: 1, Epoch: 1, W: lane.Pad(write(1, "v"), wide)}, {N: 2, Rule: 1, Epoch: 1, W: del(1)}})
	}
	for _, wide := range []int{1 << 20, 1 << 31, 1 << 40, math.MaxInt} {
		s := lane.New(wide)
		given(t, s, rule(1, 0, 9), api.OK)
		s.Out(0)
		if p := s.Encode(); len(p) > 1000 {
			t.Errorf("wide %d: %d bytes", wide, len(p))
		}
		lane.Pad(write(1, "v"), wide)
	}
}

// P2 and LANGUAGE's rule 7: what is handed in is not changed, nor kept; what is answered is new memory.
func TestMemory(t *testing.T) {
	s := lane.New(4)
	x := id(1, 1)
	h := api.Hold{ID: x, Epoch: 1, Gets: []float64{1}, Scans: [][2]float64{{0, 9}}, Puts: []float64{1}, Data: []byte("d")}
	d := decide(x, 1, 1, full(api.OK), api.Part{Writes: []api.Write{write(1, "v")}})
	f := finish(x, api.OK, 1, 3, write(1, "v"))
	g := give(id(2, 1), 1, rule(1, 0, 9), write(1, "vwxyz"))
	for n, c := range []api.Command{prepare(h), d, f, g} {
		kept := text(c)
		r := s.Apply(uint64(n), c).R
		p := s.Encode()
		spoilReply(r)
		same(t, "what was handed in", text(c), kept)
		spoil(c)
		spoilAll(s, x)
		if !bytes.Equal(s.Encode(), p) {
			t.Errorf("kind %d: it shares memory", c.Kind)
		}
	}
}

// spoil: all that a command has lists of is written over.
func spoil(c api.Command) {
	spoilHold(c.Hold)
	spoilReply(c.R)
	spoilWrites(c.Writes)
	spoilParts(c.Parts)
}

func spoilHold(h api.Hold) {
	for _, l := range [][]float64{h.Gets, h.Puts} {
		for n := range l {
			l[n]++
		}
	}
	for n := range h.Scans {
		h.Scans[n][0]--
	}
	spoilBytes(h.Data)
}

func spoilBytes(p []byte) {
	for n := range p {
		p[n]++
	}
}

func spoilWrites(l []api.Write) {
	for n := range l {
		spoilBytes(l[n].Val)
		l[n].At++
	}
}

func spoilParts(l []api.Part) {
	for n := range l {
		spoilWrites(l[n].Writes)
		l[n].Shard++
	}
}

func spoilReply(r api.Reply) {
	for n := range r.Gots {
		spoilBytes(r.Gots[n].Val)
		r.Gots[n].Has = !r.Gots[n].Has
	}
	for _, l := range r.Scans {
		for n := range l {
			spoilBytes(l[n].Val)
			l[n].At++
		}
	}
}

// spoilAll: whatever a state answers is written over.
func spoilAll(s *lane.State, x api.ID) {
	h, _ := s.Held(x)
	spoilHold(h)
	for n, l := 0, s.Holders(); n < len(l); n++ {
		l[n].Seq++
	}
	d, _ := s.Opened(x)
	for n, l := 0, append(s.Open(), d); n < len(l); n++ {
		spoilParts(l[n].Parts)
		l[n].Shards++
	}
	r, _ := s.Answer(x)
	spoilReply(r)
	spoilReply(s.Told(api.Hold{Gets: []float64{1}, Scans: [][2]float64{{0, 9}}}))
	for n, l := 0, s.Out(0); n < len(l); n++ {
		spoilBytes(l[n].W.Val)
		l[n].N++
	}
	spoilBytes(s.Now(1).Val)
	spoilBytes(s.Encode())
	g, _ := s.Get(1, s.Epoch()-1)
	spoilBytes(g.Val)
	l, _ := s.Scan(0, 9, s.Epoch()-1)
	spoilReply(api.Reply{Scans: [][]api.Pair{slices.Clone(l)}})
}
