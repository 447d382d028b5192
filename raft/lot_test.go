package raft_test

import (
	"fmt"
	"hash/fnv"
	"math/rand"
	"testing"

	"dumbwaiter/api"
	"dumbwaiter/disk"
	"dumbwaiter/raft"
	"dumbwaiter/wal"
)

// fact is an entry that some member has said to be committed, and in which term that member was then.
type fact struct {
	x    api.Entry
	term uint64
}

// actor is a member with its disk, and the state that its committed entries come to.
type actor struct {
	r     *raft.Raft
	d     *disk.Disk
	at    uint64 // up to where they were applied
	state uint64
	term  uint64 // as it was last seen
}

// trial is a group that is played by lot, and what is known of it from outside.
type trial struct {
	t      testing.TB
	lot    *rand.Rand
	l      []*actor
	under  []api.Message
	leads  map[uint64]int    // of each term who has led
	facts  map[uint64]fact   // by indices
	states map[uint64]uint64 // what the entries up to an index come to
	top    uint64            // the last index that is committed
	next   int               // what is proposed next
	alone  bool              // a leader may take its own vote away; if it is lost then, nobody else may have all, and it doesn't ask
	done   map[string]int    // how often something has happened
}

func newTrial(t testing.TB, seed int64) *trial {
	p := &trial{t: t, lot: rand.New(rand.NewSource(seed)), leads: map[uint64]int{}, facts: map[uint64]fact{}, states: map[uint64]uint64{0: 0}, done: map[string]int{}, alone: seed%3 == 0}
	n := 1 + p.lot.Intn(api.MaxNodes)
	voters := 1 + uint64(p.lot.Int63n(int64(all(n))))
	for range n {
		d := disk.New()
		wal.Compact(d, fresh(voters))
		p.l = append(p.l, &actor{d: d})
	}
	for me := range p.l {
		p.boot(me)
	}
	return p
}

// boot: a member comes back with what its disk has.
func (p *trial) boot(me int) {
	a := p.l[me]
	m, e := wal.Open(a.d)
	if e != api.OK {
		p.t.Fatalf("Open = %d", e)
	}
	a.r, e = raft.New(me, beat, elect, m)
	if e != api.OK {
		p.t.Fatalf("New of %+v = %d", m, e)
	}
	a.at, a.state, a.term = m.S.Index, stateOf(m.S.Data), a.r.Term()
}

func stateOf(data []byte) uint64 {
	n := uint64(0)
	fmt.Sscan(string(data), &n)
	return n
}

// fold: what a state and one more entry come to.
func fold(state uint64, x api.Entry) uint64 {
	h := fnv.New64a()
	fmt.Fprint(h, state, x.Index, x.Term, x.Kind, x.Data)
	return h.Sum64()
}

// keep: what a member must keep waits on its disk; a snapshot that has come is laid anew.
func (p *trial) keep(a *actor) {
	if s, ok := a.r.Save(); ok {
		wal.Keep(a.d, s)
	}
	if s, ok := a.r.Restore(); ok {
		p.done["restored"]++
		if want, is := p.states[s.Index]; !is || want != stateOf(s.Data) {
			p.t.Fatalf("a snapshot of %d that nobody has come to", s.Index)
		}
		a.at, a.state = s.Index, stateOf(s.Data)
		wal.Compact(a.d, a.r.Image())
	}
}

// sync: all is durable, and the messages go.
func (p *trial) sync(a *actor) {
	p.keep(a)
	a.d.Sync()
	p.under = append(p.under, a.r.Stable()...)
}

// take: one of the messages under way, which is gone from there.
func (p *trial) take() (api.Message, bool) {
	if len(p.under) == 0 {
		return api.Message{}, false
	}
	n := p.lot.Intn(len(p.under))
	if p.lot.Intn(3) > 0 {
		n = min(n, p.lot.Intn(3)) // the oldest ones more often
	}
	m := p.under[n]
	p.under = append(p.under[:n], p.under[n+1:]...)
	return m, true
}

func (p *trial) deliver() {
	m, ok := p.take()
	if !ok || m.To >= len(p.l) {
		return
	}
	if e := p.l[m.To].r.Step(m); e != api.OK {
		p.t.Fatalf("Step(%+v) = %d", m, e)
	}
	if p.lot.Intn(20) == 0 && len(p.under) < 200 {
		p.under = append(p.under, m)
		p.done["doubled"]++
	}
}

// act: one thing happens, by lot.
func (p *trial) act() {
	me := p.lot.Intn(len(p.l))
	a := p.l[me]
	switch k := p.lot.Intn(100); {
	case k < 20:
		a.r.Tick()
	case k < 40:
		p.sync(a)
	case k < 45:
		p.keep(a)
	case k < 80:
		p.deliver()
	case k < 83:
		p.take()
	case k < 85:
		a.d.Crash(p.lot.Intn(60))
		p.boot(me)
		p.done["crashed"]++
	case k < 91:
		p.next++
		if _, e := a.r.Propose([]byte(fmt.Sprint(p.next))); e == api.OK {
			p.done["proposed"]++
		}
	case k < 95:
		if n := p.lot.Intn(len(p.l)); (n != me || p.alone) && a.r.Change(a.r.Voters()^1<<n) == api.OK {
			p.done["changed"]++
		}
	case k < 97:
		p.compact(a)
	default:
		a.r.Draw(p.lot.Float64())
	}
}

// compact: what a member has applied is a snapshot.
func (p *trial) compact(a *actor) {
	p.keep(a)
	i := a.at - min(a.at, uint64(p.lot.Intn(3)))
	if i <= a.r.Base() {
		return
	}
	if e := a.r.Compact(i, fmt.Append(nil, p.states[i])); e != api.OK {
		p.t.Fatalf("Compact(%d) = %d", i, e)
	}
	wal.Compact(a.d, a.r.Image())
	p.done["compacted"]++
}

// look: does all that is seen of the members hold against P10.4?
func (p *trial) look() {
	for me, a := range p.l {
		if a.r.Term() < a.term {
			p.t.Fatalf("%d: the term %d behind %d", me, a.r.Term(), a.term)
		}
		a.term = a.r.Term()
		p.apply(me, a)
		if a.r.Leads() {
			p.lookLeader(me, a)
		}
	}
}

// apply: entries that are committed are applied; no two members have unlike ones.
func (p *trial) apply(me int, a *actor) {
	for a.at < a.r.Commit() && a.at >= a.r.Base() {
		x, ok := a.r.Entry(a.at + 1)
		if !ok {
			p.t.Fatalf("%d: Entry(%d) isn't there, of %d", me, a.at+1, a.r.Commit())
		}
		f, known := p.facts[x.Index]
		if !known {
			f = fact{x, a.r.Term()}
			p.facts[x.Index] = f
		}
		if !sameEntries([]api.Entry{f.x}, []api.Entry{x}) {
			p.t.Fatalf("%d: %+v is committed, and %+v was", me, x, f.x)
		}
		a.at, a.state = a.at+1, fold(a.state, x)
		if s, is := p.states[a.at]; is && s != a.state {
			p.t.Fatalf("%d: another state at %d", me, a.at)
		}
		p.states[a.at] = a.state
		p.top = max(p.top, a.at)
	}
}

// lookLeader: in a term at most one leads, and it has all that was committed in earlier ones.
func (p *trial) lookLeader(me int, a *actor) {
	term := a.r.Term()
	if who, is := p.leads[term]; is && who != me {
		p.t.Fatalf("%d and %d lead in %d", who, me, term)
	}
	p.leads[term] = me
	m := a.r.Image()
	for i := m.S.Index + 1; i <= p.top; i++ {
		f, known := p.facts[i]
		if !known || f.term >= term {
			continue
		}
		if i > a.r.Last() || !sameEntries(m.L[i-m.S.Index-1:i-m.S.Index], []api.Entry{f.x}) {
			p.t.Fatalf("%d leads in %d, and lacks %+v, committed in %d", me, term, f.x, f.term)
		}
	}
	if a.r.Leader() != me {
		p.t.Fatalf("%d leads, and says that %d does", me, a.r.Leader())
	}
}

// heal: no message is lost any more, nobody crashes; does one lead, and have all that vote all entries?
func (p *trial) heal() {
	for round := range 60 * elect {
		for _, a := range p.l {
			a.r.Draw(p.lot.Float64())
			a.r.Tick()
		}
		for range 4 {
			for _, a := range p.l {
				p.sync(a)
			}
			for n := len(p.under); n > 0; n-- {
				m := p.under[0]
				p.under = p.under[1:]
				p.l[m.To].r.Step(m)
				p.look()
			}
		}
		if p.whole() && round > elect {
			return
		}
	}
	if p.alone {
		return
	}
	for me, a := range p.l {
		p.t.Logf("%d: role %d, term %d, leader %d, voters %b, commit %d of %d", me, a.r.Role(), a.r.Term(), a.r.Leader(), a.r.Voters(), a.r.Commit(), a.r.Last())
	}
	p.t.Fatal("it doesn't come to an end")
}

// whole: is one Ready, and has each that votes all of its entries?
func (p *trial) whole() bool {
	for _, a := range p.l {
		if !a.r.Ready() || a.r.Commit() != a.r.Last() {
			continue
		}
		n := 0
		for i, b := range p.l {
			if a.r.Voters()>>i&1 == 0 || b.r.Commit() == a.r.Last() && b.r.Term() == a.r.Term() {
				n++
			}
		}
		if n == len(p.l) {
			return true
		}
	}
	return false
}

// P10.4, P5: by lot: messages lost, doubled and in any order, crashes that keep any of what waits, proposals, snapshots, changes of one member.
func TestByLot(t *testing.T) {
	done := map[string]int{}
	for seed := range int64(1000) {
		p := newTrial(t, seed)
		for range 1500 {
			p.act()
			p.look()
		}
		p.heal()
		for what, n := range p.done {
			done[what] += n
		}
		done["terms"] += len(p.leads)
		done["committed"] += int(p.top)
		if t.Failed() {
			t.Fatalf("seed %d", seed)
		}
	}
	for _, what := range []string{"restored", "doubled", "crashed", "proposed", "changed", "compacted", "terms", "committed"} {
		if done[what] < 100 {
			t.Errorf("%s: %d times", what, done[what])
		}
	}
	t.Log(done)
}
