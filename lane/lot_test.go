package lane_test

import (
	"bytes"
	"fmt"
	"math/rand"
	"testing"

	"dumbwaiter/api"
	"dumbwaiter/command"
	"dumbwaiter/lane"
)

// numbers: those that the lot draws from.
func numbers() []float64 { return []float64{low, -1, minusNought, 0, 1, 2, 3, high, nan} }

// sessions: those that the lot draws from, and one that nobody has.
func sessions() []uint64 { return []uint64{0, 1, lane.Inner - 1, lane.Inner, top, 2} }

// lot draws commands, of which most mean something to a record as it is.
type lot struct {
	*rand.Rand
	m *record
}

// some: up to so many things.
func some[T any](g lot, most int, one func() T) []T {
	var l []T
	for range g.Intn(most + 1) {
		l = append(l, one())
	}
	return l
}

func (g lot) number() float64 { return numbers()[g.Intn(len(numbers()))] }

func (g lot) span() [2]float64 {
	n := g.Intn(len(numbers()))
	return [2]float64{numbers()[n], numbers()[max(0, min(n+g.Intn(4)-1, len(numbers())-1))]}
}

func (g lot) val() []byte {
	p := make([]byte, g.Intn(6))
	g.Read(p)
	return p
}

func (g lot) write() api.Write {
	return api.Write{At: g.number(), Del: g.Intn(4) == 0, Val: g.val()}
}

func (g lot) part() api.Part {
	return api.Part{Shard: g.Intn(api.MaxShards), Writes: some(g, 2, g.write)}
}

func (g lot) errno() api.Errno {
	return api.Errno(max(0, g.Intn(40)-24))
}

// epoch: mostly the open one.
func (g lot) epoch() uint64 {
	if g.Intn(6) > 0 {
		return g.m.epoch
	}
	return g.m.epoch + uint64(g.Intn(4)) - 1
}

// fresh: mostly a number that wasn't answered yet.
func (g lot) fresh() api.ID {
	session := sessions()[g.Intn(len(sessions())-1)]
	last := g.m.answers[session].seq
	if g.Intn(4) > 0 {
		return id(session, last+1+uint64(g.Intn(2)))
	}
	return id(session, last-min(last, uint64(g.Intn(3))))
}

// held: mostly one that holds something.
func (g lot) held() api.ID {
	if l := g.m.holders(); len(l) > 0 && g.Intn(5) > 0 {
		return l[g.Intn(len(l))]
	}
	return id(sessions()[g.Intn(len(sessions()))], uint64(g.Intn(4)))
}

// opened: mostly one that is open.
func (g lot) opened() api.ID {
	if l := g.m.opened(); len(l) > 0 && g.Intn(5) > 0 {
		return l[g.Intn(len(l))].ID
	}
	return g.fresh()
}

func (g lot) got() api.Got { return api.Got{Has: g.Intn(2) == 0, Val: g.val()} }

func (g lot) pair() api.Pair { return api.Pair{At: g.number(), Val: g.val()} }

func (g lot) pairs() []api.Pair { return some(g, 2, g.pair) }

func (g lot) reply() api.Reply {
	return api.Reply{E: g.errno(), Epoch: g.Uint64(), Index: g.Uint64(), Gots: some(g, 2, g.got), Scans: some(g, 2, g.pairs)}
}

func (g lot) rule() api.Rule {
	return api.Rule{ID: uint64(g.Intn(3)), From: g.Intn(2), To: g.Intn(3), Lo: g.number(), Hi: g.number(), Authority: g.Uint64(), Quota: g.Intn(4)}
}

func (g lot) hold() api.Hold {
	x := g.held()
	if h, ok := g.m.holds[x]; ok && g.Intn(2) == 0 {
		h.Epoch += uint64(g.Intn(3))
		return h
	}
	return api.Hold{ID: x, Epoch: g.epoch(), Gets: some(g, 2, g.number), Scans: some(g, 1, g.span), Puts: some(g, 1, g.number), Data: g.val()}
}

func (g lot) command() api.Command {
	c := api.Command{Kind: []byte{command.Close, command.Close, command.Close, command.Close, command.Close, command.Finish, command.Prepare, command.Prepare, command.Prepare, command.Finish, command.Finish, command.Finish, command.Finish, command.Decide, command.Decide, command.Forget, command.Grant, command.Give, command.Give, 0, 9}[g.Intn(21)]}
	switch c.Kind {
	case command.Close:
		c.Epoch = g.epoch()
	case command.Prepare:
		c.Hold = g.hold()
	case command.Finish:
		c.ID, c.E, c.Epoch, c.Index, c.Writes = g.held(), g.errno(), g.epoch(), uint64(g.Intn(9)), some(g, 3, g.write)
	case command.Decide:
		c.ID, c.Epoch, c.Shards, c.Parts, c.R = g.fresh(), g.epoch(), uint64(g.Intn(4)), some(g, 2, g.part), g.reply()
	case command.Forget:
		c.ID = g.opened()
	case command.Grant:
		c.Rule, c.On = g.rule(), g.Intn(3) > 0
	case command.Give:
		c.ID, c.Epoch, c.Rule, c.R = g.fresh(), g.epoch(), g.rule(), g.reply()
		c.Writes = []api.Write{g.write()}
		if g.Intn(8) == 0 {
			c.Writes = some(g, 3, g.write)
		}
	}
	return c
}

// P16.1, P16.2, P16.3, P2, P5, P6: any commands one after the other, held against a record; what Decode makes of Encode's bytes goes on in the place of the state.
func TestByLot(t *testing.T) {
	outcomes, far := map[string]int{}, 0
	for seed := range int64(40) {
		g := lot{rand.New(rand.NewSource(seed)), newRecord(int(seed%5) - 1)}
		s := lane.New(g.m.wide)
		for step := range 150 {
			c, index := g.command(), uint64(step)
			kept := text(c)
			want := g.m.apply(index, c)
			what := fmt.Sprintf("seed %d, step %d: %v", seed, step, c)
			apply(t, what, s, index, c, want)
			if text(c) != kept {
				t.Fatalf("%s: what was handed in is changed", what)
			}
			outcomes[fmt.Sprintf("kind %d: effect %d, E %d", c.Kind, want.Kind, want.R.E)]++
			if g.Intn(8) == 0 {
				h := g.hold()
				same(t, what+", Hold", s.Hold(h), g.m.hold(h))
			}
			if g.Intn(5) == 0 {
				s = again(t, what, s)
			}
			tells(t, what, s, g)
			if t.Failed() {
				t.FailNow()
			}
		}
		if g.m.epoch > lane.Keep+4 {
			far++
		}
	}
	if far < 10 {
		t.Errorf("the lot is too even: %d come far", far)
	}
	for _, x := range []string{"1: effect 0, E 0", "1: effect 1, E 0", "2: effect 2, E 0", "2: effect 2, E 8", "2: effect 2, E 9", "3: effect 3, E 0", "4: effect 0, E 0", "4: effect 4, E 0", "4: effect 4, E 9", "4: effect 4, E 10", "7: effect 0, E 0", "7: effect 4, E 0", "7: effect 4, E 1", "7: effect 4, E 9", "7: effect 4, E 10", "7: effect 4, E 13"} {
		if outcomes["kind "+x] < 10 {
			t.Errorf("the lot is too even: %s: %d of %v", x, outcomes["kind "+x], outcomes)
		}
	}
}

// again: what Decode makes of a state's bytes.
func again(t *testing.T, what string, s *lane.State) *lane.State {
	t.Helper()
	p := s.Encode()
	kept := bytes.Clone(p)
	u, e := lane.Decode(p)
	if e != api.OK || u == nil {
		t.Fatalf("%s: Decode: %d", what, e)
	}
	if !bytes.Equal(u.Encode(), kept) || !bytes.Equal(p, kept) || !bytes.Equal(s.Encode(), kept) {
		t.Fatalf("%s: other bytes", what)
	}
	return u
}

// tells: does a state tell just what a record does?
func tells(t *testing.T, what string, s *lane.State, g lot) {
	t.Helper()
	m := g.m
	same(t, what+", Epoch, May", []any{s.Epoch(), s.May()}, []any{m.epoch, m.may()})
	same(t, what+", Holders", s.Holders(), m.holders())
	same(t, what+", Open", s.Open(), m.opened())
	for to := range 4 {
		same(t, what+", Out", s.Out(to), m.out(to))
	}
	for _, session := range sessions() {
		last := m.answers[session].seq
		same(t, what+", Last", s.Last(session), last)
		for seq := last - min(last, 1); seq < last+2; seq++ {
			tellsOf(t, what, s, m, id(session, seq))
		}
	}
	for _, x := range m.holders() {
		tellsOf(t, what, s, m, x)
	}
	h := api.Hold{Gets: numbers(), Scans: [][2]float64{g.span(), {low, nan}, g.span()}}
	same(t, what+", Told", s.Told(h), m.told(h))
	for _, epoch := range []uint64{0, 1, uint64(g.Intn(int(m.epoch) + 2)), m.epoch - min(m.epoch, 9), m.epoch - min(m.epoch, 10), m.epoch - 1, m.epoch, top} {
		tellsIn(t, fmt.Sprintf("%s, in %d", what, epoch), s, g, epoch)
	}
}

// tellsOf: what is told of a transaction.
func tellsOf(t *testing.T, what string, s *lane.State, m *record, x api.ID) {
	t.Helper()
	h, ok := s.Held(x)
	want, is := m.holds[x]
	same(t, what+", Held", []any{h, ok}, []any{want, is})
	d, ok := s.Opened(x)
	open, is := m.open[x]
	same(t, what+", Opened", []any{d, ok}, []any{open, is})
	r, e := s.Answer(x)
	a, f := m.answer(x)
	same(t, what+", Answer", []any{r, e}, []any{a, f})
}

// tellsIn: what is told of the end of an epoch, and of now.
func tellsIn(t *testing.T, what string, s *lane.State, g lot, epoch uint64) {
	t.Helper()
	e := g.m.old(epoch)
	for _, x := range numbers() {
		got, f := s.Get(x, epoch)
		want := g.m.get(x, epoch)
		if e != api.OK {
			want = api.Got{}
		}
		same(t, what+", Get", []any{got, f}, []any{want, e})
		same(t, what+", Now", s.Now(x), g.m.get(x, top))
	}
	x := g.span()
	l, f := s.Scan(x[0], x[1], epoch)
	want := g.m.scan(x[0], x[1], epoch)
	if e != api.OK {
		want = nil
	}
	same(t, what+", Scan", []any{l, f}, []any{want, e})
	for of := range uint64(4) {
		r, f := s.Rule(of, epoch)
		want, e := g.m.rule(of, epoch)
		same(t, what+", Rule", []any{r, f}, []any{want, e})
	}
}
