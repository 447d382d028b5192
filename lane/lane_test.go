package lane_test

import (
	"fmt"
	"math"
	"testing"

	"dumbwaiter/api"
	"dumbwaiter/command"
	"dumbwaiter/lane"
)

// P16.1: the chapter's example, and that there is nothing at first.
func TestFirst(t *testing.T) {
	s := lane.New(4)
	if s.Epoch() != 1 || !s.May() {
		t.Errorf("Epoch %d, May %v", s.Epoch(), s.May())
	}
	nobody(t, "at first", s)
	apply(t, "Close", s, 7, closing(1), closed)
	if s.Epoch() != 2 || !s.May() {
		t.Errorf("Epoch %d, May %v", s.Epoch(), s.May())
	}
	nobody(t, "closed", s)
}

// nobody: is there nothing but epochs?
func nobody(t *testing.T, what string, s *lane.State) {
	t.Helper()
	if len(s.Holders())+len(s.Open())+len(s.Out(0))+len(s.Out(-1)) != 0 || s.Last(1) != 0 || s.Now(0).Has {
		t.Errorf("%s: there is something", what)
	}
	if _, e := s.Answer(id(1, 1)); e != api.ErrNone {
		t.Errorf("%s: Answer: %d", what, e)
	}
	if _, ok := s.Held(id(1, 1)); ok {
		t.Errorf("%s: Held", what)
	}
	if _, ok := s.Opened(id(1, 1)); ok {
		t.Errorf("%s: Opened", what)
	}
	g, e := s.Get(0, 0)
	same(t, what, []any{g, e}, []any{api.Got{}, api.OK})
	l, e := s.Scan(low, nan, 0)
	same(t, what, []any{l, e}, []any{[]api.Pair{}, api.OK})
	r, e := s.Rule(1, 0)
	same(t, what, []any{r, e}, []any{api.Rule{}, api.ErrRule})
}

// P16.1, P16.2, P5: a transaction is prepared, decided, finished and forgotten, alone and among others.
func TestTransaction(t *testing.T) {
	for others := range uint64(3) {
		s := lane.New(4)
		stand(t, s, 1, 1, write(1, "one"), write(2, "two"), write(3, "three"))
		for n := range others {
			x := id(10*n, 5)
			apply(t, "another one", s, 2, prepare(api.Hold{ID: x, Epoch: 1, Puts: []float64{float64(20 + n)}}), voted(x, api.Reply{}))
			apply(t, "another one", s, 3, decide(x, 1, 2, api.Reply{}), decided(x, at(api.OK, 1, 3)))
		}
		x := id(5, 9)
		h := api.Hold{ID: x, Epoch: 1, Gets: []float64{1, 9, 1}, Scans: [][2]float64{{2, 3}, {3, 2}}, Puts: []float64{1, 2}}
		r := api.Reply{Gots: []api.Got{got("one"), {}, got("one")}, Scans: [][]api.Pair{{pair(2, "two"), pair(3, "three")}, nil}}
		apply(t, "Prepare", s, 4, prepare(h), voted(x, r))
		same(t, "Told", s.Told(h), r)
		if g, ok := s.Held(x); !ok || text(g) != text(h) || len(s.Holders()) != int(others)+1 || s.May() {
			t.Errorf("Held: %v, %v, %v", g, ok, s.Holders())
		}
		parts := []api.Part{{Shard: 0, Writes: []api.Write{write(1, "new"), del(2)}}, {Shard: 3, Writes: []api.Write{write(30, "x")}}}
		r.Epoch, r.Index = 1, 5
		apply(t, "Decide", s, 5, decide(x, 1, 9, r, parts...), decided(x, r))
		d := api.Decision{ID: x, Epoch: 1, Index: 5, Shards: 9, Parts: parts}
		if g, ok := s.Opened(x); !ok || text(g) != text(d) || len(s.Open()) != int(others)+1 || s.Last(5) != 9 {
			t.Errorf("Opened: %v, %v, %v", g, ok, s.Open())
		}
		same(t, "nothing stands yet", s.Now(1), got("one"))
		apply(t, "Finish", s, 6, finish(x, api.OK, 1, 5, parts[0].Writes...), finished(x))
		same(t, "Now", []api.Got{s.Now(1), s.Now(2), s.Now(3)}, []api.Got{got("new"), {}, got("three")})
		if _, ok := s.Held(x); ok || len(s.Holders()) != int(others) || s.May() != (others == 0) {
			t.Errorf("finished: %v", s.Holders())
		}
		apply(t, "Forget", s, 7, forget(x), nothing)
		if _, ok := s.Opened(x); ok || len(s.Open()) != int(others) {
			t.Errorf("forgotten: %v", s.Open())
		}
		g, e := s.Answer(x)
		same(t, "the answer stays", []any{g, e}, []any{r, api.OK})
	}
}

// P16.1: an epoch that isn't open can't be closed, and the open one can't while somebody holds something of it.
func TestClose(t *testing.T) {
	s := lane.New(0)
	reach(t, s, 3)
	h := api.Hold{ID: id(1, 1), Epoch: 3, Gets: []float64{1}}
	for _, epoch := range []uint64{0, 1, 2, 4, top} {
		unchanged(t, "another epoch", s, func() { apply(t, "another epoch", s, 9, closing(epoch), nothing) })
	}
	apply(t, "Prepare", s, 9, prepare(h), voted(h.ID, api.Reply{Gots: []api.Got{{}}}))
	for _, epoch := range []uint64{0, 2, 3, 4} {
		unchanged(t, "held", s, func() { apply(t, "held", s, 9, closing(epoch), nothing) })
	}
	if s.May() {
		t.Error("May, while somebody holds something")
	}
	apply(t, "Finish", s, 9, finish(h.ID, api.ErrOld, 3, 9), finished(h.ID))
	if !s.May() {
		t.Error("May not, though nobody holds anything")
	}
	apply(t, "held no more", s, 9, closing(3), closed)
	apply(t, "once more", s, 9, closing(3), nothing)
	if s.Epoch() != 4 {
		t.Errorf("Epoch %d", s.Epoch())
	}
}

// P16.1: what is held of a later epoch lets the ones ahead be closed, but not its own.
func TestCloseOfWhatIsReleased(t *testing.T) {
	s := lane.New(0)
	x := id(lane.Inner, 1)
	apply(t, "Prepare", s, 2, prepare(api.Hold{ID: x, Epoch: 1}), voted(x, api.Reply{}))
	apply(t, "Prepare later", s, 3, prepare(api.Hold{ID: x, Epoch: 3}), voted(x, api.Reply{}))
	for epoch := range uint64(2) {
		if !s.May() {
			t.Errorf("May not in %d", epoch+1)
		}
		apply(t, "ahead", s, 4, closing(epoch+1), closed)
	}
	if s.May() {
		t.Error("May, while something of the open one is held")
	}
	apply(t, "its own", s, 5, closing(3), nothing)
	apply(t, "later", s, 6, prepare(api.Hold{ID: x, Epoch: 4}), voted(x, api.Reply{}))
	apply(t, "its own, let go", s, 7, closing(3), closed)
}

// P16.1, P16.2: what is held just so; a Prepare in an epoch that isn't open; what another one holds; and Hold itself, that takes as Prepare does.
func TestPrepare(t *testing.T) {
	for _, hold := range []func(*lane.State, api.Hold) api.Errno{
		(*lane.State).Hold,
		func(s *lane.State, h api.Hold) api.Errno { return s.Apply(4, prepare(h)).R.E },
	} {
		s := lane.New(0)
		reach(t, s, 3)
		h := api.Hold{ID: id(1, 1), Epoch: 3, Gets: []float64{nan, 1}, Scans: [][2]float64{{2, 3}}, Puts: []float64{5}, Data: []byte("d")}
		for _, epoch := range []uint64{0, 1, 2, 4, top} {
			h := h
			h.Epoch = epoch
			unchanged(t, "another epoch", s, func() { same(t, "another epoch", hold(s, h), api.ErrEpoch) })
		}
		same(t, "the open one", hold(s, h), api.OK)
		unchanged(t, "just so", s, func() { same(t, "just so", hold(s, h), api.OK) })
		if g, ok := s.Held(h.ID); !ok || text(g) != text(h) {
			t.Errorf("Held: %v, %v", g, ok)
		}
		o := api.Hold{ID: id(1, 2), Epoch: 3, Gets: []float64{5}}
		unchanged(t, "it meets", s, func() { same(t, "it meets", hold(s, o), api.ErrConflict) })
		o.Epoch = 4
		unchanged(t, "it meets, in another epoch", s, func() { same(t, "both", hold(s, o), api.ErrEpoch) })
		o.Epoch, o.Gets = 3, []float64{6}
		same(t, "it doesn't meet", hold(s, o), api.OK)
		same(t, "Holders", s.Holders(), []api.ID{id(1, 1), id(1, 2)})
	}
}

// P16.1: an error is told alone, though the hold reads.
func TestVotesOfErrors(t *testing.T) {
	s := lane.New(0)
	stand(t, s, 1, 1, write(5, "v"))
	h := api.Hold{ID: id(1, 1), Epoch: 1, Gets: []float64{5}, Puts: []float64{5}}
	apply(t, "OK", s, 3, prepare(h), voted(h.ID, api.Reply{Gots: []api.Got{got("v")}}))
	apply(t, "once more", s, 4, prepare(h), voted(h.ID, api.Reply{Gots: []api.Got{got("v")}}))
	h.ID.Seq = 2
	apply(t, "it meets", s, 5, prepare(h), voted(h.ID, api.Reply{E: api.ErrConflict}))
	h.Epoch = 2
	apply(t, "another epoch", s, 6, prepare(h), voted(h.ID, api.Reply{E: api.ErrEpoch}))
	h.ID.Seq = 1
	apply(t, "it holds something else", s, 7, prepare(h), voted(h.ID, api.Reply{E: api.ErrConflict}))
}

// P16.2: what holds something else: by its session, and both epochs.
func TestHoldOfSomethingElse(t *testing.T) {
	for _, session := range []uint64{0, 1, lane.Inner - 1, lane.Inner, lane.Inner + 1, top} {
		for was := range uint64(3) {
			for is := range uint64(7) {
				s := lane.New(0)
				reach(t, s, 2)
				x := id(session, 4)
				same(t, "at first", s.Hold(api.Hold{ID: x, Epoch: 2, Gets: []float64{1}}), api.OK)
				if was > 0 && session >= lane.Inner {
					same(t, "later", s.Hold(api.Hold{ID: x, Epoch: 2 + was, Gets: []float64{1}}), api.OK)
				}
				held, _ := s.Held(x)
				h := api.Hold{ID: x, Epoch: is, Gets: []float64{1, 2}}
				want := api.ErrConflict
				if session >= lane.Inner && is > held.Epoch {
					want = api.OK
				}
				what := fmt.Sprintf("session %d, %d behind %d", session, is, held.Epoch)
				same(t, what, s.Hold(h), want)
				if want == api.OK {
					held = h
				}
				g, _ := s.Held(x)
				same(t, what, g, held)
			}
		}
	}
}

// P16.2: something else of a later epoch can't be held if another one holds what meets it; what was held stays.
func TestLaterHoldThatMeets(t *testing.T) {
	s := lane.New(0)
	x, h := id(top, 1), api.Hold{ID: id(1, 1), Epoch: 1, Puts: []float64{7}}
	same(t, "one", s.Hold(h), api.OK)
	same(t, "released", s.Hold(api.Hold{ID: x, Epoch: 1, Puts: []float64{8}}), api.OK)
	unchanged(t, "it meets", s, func() {
		same(t, "it meets", s.Hold(api.Hold{ID: x, Epoch: 2, Puts: []float64{7}}), api.ErrConflict)
	})
	same(t, "Finish", s.Apply(1, finish(h.ID, api.OK, 1, 1)), finished(h.ID))
	same(t, "it doesn't any more", s.Hold(api.Hold{ID: x, Epoch: 2, Puts: []float64{7}}), api.OK)
}

// P16.1: a Finish of an ID that holds nothing writes nothing; one with an error lets go alone; its own epoch and index tell its place.
func TestFinish(t *testing.T) {
	s := lane.New(0)
	x := id(1, 1)
	unchanged(t, "holds nothing", s, func() {
		apply(t, "holds nothing", s, 5, finish(x, api.OK, 1, 5, write(1, "v")), finished(x))
	})
	for e := range api.ErrLattice + 1 {
		same(t, "Hold", s.Hold(api.Hold{ID: x, Epoch: 1, Puts: []float64{1}}), api.OK)
		apply(t, "Finish", s, 6, finish(x, e, 1, uint64(10-e), write(1, fmt.Sprint(e))), finished(x))
		same(t, "only OK writes", s.Now(1), got("0"))
		if _, ok := s.Held(x); ok || !s.May() {
			t.Errorf("it is held behind %d", e)
		}
	}
	apply(t, "once more", s, 7, finish(x, api.OK, 1, 99, write(1, "again")), finished(x))
	same(t, "once more", s.Now(1), got("0"))
	stand(t, s, 1, 9, write(1, "a place ahead"), write(2, "first"), write(2, "last"), write(3, "v"), del(3))
	same(t, "by their places", []api.Got{s.Now(1), s.Now(2), s.Now(3)}, []api.Got{got("0"), got("last"), {}})
	stand(t, s, 1, 11, write(1, "a place behind"))
	same(t, "by their places", s.Now(1), got("a place behind"))
	stand(t, s, 7, 0, write(1, "a later epoch"))
	stand(t, s, 6, top, write(1, "an earlier epoch"))
	same(t, "by their epochs", s.Now(1), got("a later epoch"))
	stand(t, s, top, top, write(1, "the last place"))
	same(t, "by their epochs", s.Now(1), got("the last place"))
}

// P16.1: a command of a Kind that is none.
func TestOtherKinds(t *testing.T) {
	s := lane.New(4)
	for kind := range 256 {
		c := decide(id(1, 1), 1, 1, api.Reply{})
		c.Kind, c.Hold, c.Rule.ID, c.On, c.Writes = byte(kind), api.Hold{ID: id(1, 1), Epoch: 1}, 1, true, []api.Write{write(1, "v")}
		if command.Close <= c.Kind && c.Kind <= command.Give {
			continue
		}
		unchanged(t, "no kind", s, func() { apply(t, fmt.Sprint("kind ", kind), s, 3, c, nothing) })
	}
}

// P16.2: Open by Session and Seq; Holders too.
func TestOrder(t *testing.T) {
	s := lane.New(0)
	ids := []api.ID{id(2, 1), id(1, 2), id(top, 1), id(1, 1), id(lane.Inner, 3), id(0, 9), id(2, 2), id(1, 3)}
	last := map[uint64]uint64{}
	var asked []api.ID
	for _, x := range ids {
		same(t, "Hold", s.Hold(api.Hold{ID: x, Epoch: 1}), api.OK)
		if x.Seq > last[x.Session] {
			last[x.Session] = x.Seq
			s.Apply(x.Seq, decide(x, 1, 1, api.Reply{}))
			asked = append(asked, x)
		}
	}
	same(t, "Holders", s.Holders(), []api.ID{id(0, 9), id(1, 1), id(1, 2), id(1, 3), id(2, 1), id(2, 2), id(lane.Inner, 3), id(top, 1)})
	var open []api.ID
	for _, d := range s.Open() {
		open = append(open, d.ID)
	}
	same(t, "Open", open, []api.ID{id(0, 9), id(1, 2), id(1, 3), id(2, 1), id(2, 2), id(lane.Inner, 3), id(top, 1)})
	for n, x := range asked {
		if d, ok := s.Opened(x); !ok || d.ID != x || len(s.Open()) != len(asked)-n {
			t.Errorf("Opened(%v) = %v, %v", x, d, ok)
		}
		apply(t, "Forget", s, 1, forget(x), nothing)
		if d, ok := s.Opened(x); ok || text(d) != text(api.Decision{}) {
			t.Errorf("forgotten: Opened(%v) = %v, %v", x, d, ok)
		}
	}
}

// P16.2: at the end of which epochs can be read, and what stood there then.
func TestReads(t *testing.T) {
	s := lane.New(0)
	for epoch := uint64(1); epoch <= 3*lane.Keep; epoch++ {
		stand(t, s, epoch, 5, write(1, fmt.Sprint(epoch)), write(float64(epoch+1), "v"))
		if epoch%3 == 0 {
			stand(t, s, epoch, 6, del(1))
		}
		reads(t, s)
		apply(t, "Close", s, 1, closing(epoch), closed)
		reads(t, s)
	}
}

// reads: is what TestReads has laid told of each epoch?
func reads(t *testing.T, s *lane.State) {
	t.Helper()
	for epoch := range uint64(5 * lane.Keep) {
		g, e := s.Get(1, epoch)
		l, f := s.Scan(2, nan, epoch)
		what := fmt.Sprintf("%d is open, of %d", s.Epoch(), epoch)
		switch {
		case epoch >= s.Epoch():
			same(t, what, []any{g, e, l, f}, []any{api.Got{}, api.ErrNone, []api.Pair{}, api.ErrNone})
		case s.Epoch()-1-epoch > lane.Keep:
			same(t, what, []any{g, e, l, f}, []any{api.Got{}, api.ErrEpoch, []api.Pair{}, api.ErrEpoch})
		case epoch%3 == 0:
			same(t, what, []any{g, e, len(l), f}, []any{api.Got{}, api.OK, epoch, api.OK})
		default:
			same(t, what, []any{g, e, len(l), f}, []any{got(fmt.Sprint(epoch)), api.OK, epoch, api.OK})
		}
	}
	for _, epoch := range []uint64{top, top - 1, math.MaxInt64} {
		if _, e := s.Get(1, epoch); e != api.ErrNone {
			t.Errorf("Get of %d: %d", epoch, e)
		}
	}
}

// P16.1: Trim: what can't be read any more is gone: so a write at an earlier place than a Del that is gone stands.
func TestTrim(t *testing.T) {
	for of := range uint64(3) {
		for epoch := uint64(2); epoch <= lane.Keep+5; epoch++ {
			s := lane.New(0)
			stand(t, s, of, 5, del(1))
			reach(t, s, epoch)
			stand(t, s, of, 4, write(1, "ahead"))
			want := api.Got{}
			if epoch > lane.Keep+1 && of <= epoch-1-lane.Keep {
				want = got("ahead")
			}
			same(t, fmt.Sprintf("%d is open, of %d", epoch, of), s.Now(1), want)
		}
	}
}

// P16.2: a scan with just MaxScan pairs, and more; now, at the end of an epoch, and in a vote.
func TestLongScans(t *testing.T) {
	for _, n := range []int{0, 1, api.MaxScan - 1, api.MaxScan, api.MaxScan + 1, 3 * api.MaxScan} {
		s := lane.New(0)
		var want []api.Pair
		for x := range n {
			stand(t, s, 1, 5, write(float64(x), fmt.Sprint(x)))
			if x < api.MaxScan {
				want = append(want, pair(float64(x), fmt.Sprint(x)))
			}
		}
		all := [2]float64{low, nan}
		h := api.Hold{ID: id(1, 1), Epoch: 1, Scans: [][2]float64{all, {1, 0}, all}}
		r := api.Reply{Scans: [][]api.Pair{want, nil, want}}
		same(t, "Told", s.Told(h), r)
		apply(t, "Prepare", s, 6, prepare(h), voted(h.ID, r))
		apply(t, "Finish", s, 7, finish(h.ID, api.OK, 1, 5), finished(h.ID))
		reach(t, s, 2)
		l, e := s.Scan(low, nan, 1)
		same(t, "Scan", []any{l, e}, []any{want, api.OK})
		l, e = s.Scan(nan, low, 1)
		same(t, "Scan of none", []any{l, e}, []any{[]api.Pair{}, api.OK})
	}
}

// P16.2: Told and Now tell what stands now, of the open epoch too; numbers are held against one another by number.Same.
func TestNow(t *testing.T) {
	s := lane.New(0)
	stand(t, s, 1, 5, write(minusNought, "minus"), write(0, "nought"), write(nan, "nan"), write(low, "low"), write(high, "high"))
	for x, want := range map[float64]string{minusNought: "minus", low: "low", high: "high", math.Float64frombits(0xfff0000000000001): "nan"} {
		if x == 0 {
			same(t, "a nought", []api.Got{s.Now(minusNought), s.Now(0)}, []api.Got{got("minus"), got("nought")})
		} else {
			same(t, want, s.Now(x), got(want))
		}
	}
	same(t, "Told", s.Told(api.Hold{Gets: []float64{nan, 1}, Scans: [][2]float64{{minusNought, minusNought}, {0, high}}}),
		api.Reply{Gots: []api.Got{got("nan"), {}}, Scans: [][]api.Pair{{pair(minusNought, "minus")}, {pair(0, "nought"), pair(high, "high")}}})
	same(t, "Told of nothing", s.Told(api.Hold{Epoch: 9, Puts: []float64{0}}), api.Reply{})
	if g, e := s.Get(0, 0); g.Has || e != api.OK {
		t.Errorf("at the end of 0: %v, %d", g, e)
	}
}

// P16.1, P16.2: a rule is granted, revoked, granted again; it is told of closed epochs alone, of all of them.
func TestRules(t *testing.T) {
	s := lane.New(0)
	r := api.Rule{ID: 7, From: 1, Lo: -1, Hi: nan, Authority: 3, Quota: 1}
	q := r
	q.Quota = 2
	reach(t, s, 2)
	unchanged(t, "Revoke of none", s, func() { apply(t, "Revoke of none", s, 1, grant(r, false), nothing) })
	apply(t, "Grant", s, 1, grant(r, true), nothing)
	reach(t, s, 4)
	apply(t, "Revoke", s, 1, grant(api.Rule{ID: 7}, false), nothing)
	reach(t, s, 5)
	apply(t, "Grant", s, 1, grant(r, true), nothing)
	apply(t, "Grant again", s, 1, grant(q, true), nothing)
	apply(t, "Grant of another one", s, 1, grant(api.Rule{ID: 8}, true), nothing)
	reach(t, s, 6)
	apply(t, "Grant again", s, 1, grant(r, true), nothing)
	for range 2 * lane.Keep {
		for epoch, quota := range []int{0, 0, 1, 1, 0, 2, 1, 1} {
			x, e := s.Rule(7, uint64(epoch))
			want, none := r, api.OK
			want.Quota = quota
			switch {
			case uint64(epoch) >= s.Epoch():
				want, none = api.Rule{}, api.ErrNone
			case quota == 0:
				want, none = api.Rule{}, api.ErrRule
			}
			same(t, fmt.Sprintf("%d is open, of %d", s.Epoch(), epoch), []any{x, e}, []any{want, none})
		}
		x, e := s.Rule(7, top)
		same(t, "far ahead", []any{x, e}, []any{api.Rule{}, api.ErrNone})
		x, e = s.Rule(9, s.Epoch()-1)
		same(t, "another ID", []any{x, e}, []any{api.Rule{}, api.ErrRule})
		reach(t, s, s.Epoch()+1)
	}
}

// P16.2, P1: of a nil one: Nothing, nothing, ErrNone, 0.
func TestNil(t *testing.T) {
	var s *lane.State
	x, h := id(1, 1), api.Hold{ID: id(1, 1), Gets: []float64{1}, Scans: [][2]float64{{0, 2}}}
	for _, c := range []api.Command{{}, closing(0), prepare(h), finish(x, 0, 0, 0, write(1, "v")), decide(x, 0, 1, api.Reply{}), forget(x), grant(api.Rule{ID: 1}, true), grant(api.Rule{ID: 1}, false), give(x, 0, rule(1, 1, 9), write(1, "v"))} {
		apply(t, "nil", s, 1, c, nothing)
	}
	same(t, "numbers", []any{s.Epoch(), s.Last(1), s.Last(0)}, []any{0, 0, 0})
	same(t, "errors", []any{s.Hold(h), s.Hold(api.Hold{})}, []any{api.ErrNone, api.ErrNone})
	same(t, "lists", []int{len(s.Holders()), len(s.Open()), len(s.Out(0)), len(s.Encode())}, []int{0, 0, 0, 0})
	same(t, "Told, Now", []any{s.Told(h), s.Now(1)}, []any{api.Reply{}, api.Got{}})
	held, ok := s.Held(x)
	same(t, "Held", []any{held, ok, s.May()}, []any{api.Hold{}, false, false})
	d, ok := s.Opened(x)
	same(t, "Opened", []any{d, ok}, []any{api.Decision{}, false})
	r, e := s.Answer(x)
	same(t, "Answer", []any{r, e}, []any{api.Reply{}, api.ErrNone})
	for _, epoch := range []uint64{0, 1, top} {
		g, e := s.Get(1, epoch)
		l, f := s.Scan(0, 2, epoch)
		q, n := s.Rule(1, epoch)
		same(t, "reads", []any{g, e, l, f, q, n}, []any{api.Got{}, api.ErrNone, []api.Pair{}, api.ErrNone, api.Rule{}, api.ErrNone})
	}
}

// P1: a state that New hasn't made: nothing is promised of it, but that it doesn't panic.
func TestZero(t *testing.T) {
	s, x := &lane.State{}, id(1, 1)
	for _, c := range []api.Command{prepare(api.Hold{ID: x}), finish(x, 0, 0, 0, write(1, "v")), decide(x, 0, 1, api.Reply{}), forget(x), grant(api.Rule{ID: 1}, true), give(x, 0, rule(1, 1, 9), write(1, "v")), closing(0)} {
		s.Apply(1, c)
		s.Told(api.Hold{Gets: []float64{1}, Scans: [][2]float64{{0, 2}}})
		s.Open()
		s.Out(1)
		s.Get(1, 0)
		s.Encode()
	}
}
