package raft_test

import (
	"reflect"
	"testing"

	"dumbwaiter/api"
	"dumbwaiter/raft"
	"dumbwaiter/wal"
)

// What most tests here take: ticks of a heartbeat, of an election.
const (
	beat  = 2
	elect = 4
)

// all: the nodes from 0 on, so many, bit by bit.
func all(n int) uint64 { return 1<<n - 1 }

// fresh: what a member has kept at the beginning of a group of these voters.
func fresh(voters uint64) wal.Image {
	return wal.Image{H: api.Hard{Vote: -1}, S: api.Snap{Voters: voters}}
}

func entry(i, term uint64, data string) api.Entry {
	return api.Entry{Index: i, Term: term, Data: []byte(data)}
}

// row: entries from an index on, of these terms.
func row(from uint64, terms ...uint64) []api.Entry {
	var l []api.Entry
	for n, t := range terms {
		l = append(l, entry(from+uint64(n), t, "of term "+string(rune('0'+t%10))))
	}
	return l
}

func made(t testing.TB, me int, m wal.Image) *raft.Raft {
	t.Helper()
	r, e := raft.New(me, beat, elect, m)
	if e != api.OK || r == nil {
		t.Fatalf("New(%d, %+v) = %v, %d", me, m, r, e)
	}
	return r
}

func step(t testing.TB, r *raft.Raft, m api.Message) {
	t.Helper()
	if e := r.Step(m); e != api.OK {
		t.Fatalf("Step(%+v) = %d", m, e)
	}
}

// sent: what goes when all is kept.
func sent(r *raft.Raft) []api.Message {
	r.Save()
	return r.Stable()
}

// to: of messages those to a node.
func to(l []api.Message, n int) []api.Message {
	var some []api.Message
	for _, m := range l {
		if m.To == n {
			some = append(some, m)
		}
	}
	return some
}

func ticks(r *raft.Raft, n int) {
	for range n {
		r.Tick()
	}
}

// asks: ticks till it asks, so many at most; how many they were.
func asks(r *raft.Raft, most int) int {
	for n := range most {
		r.Tick()
		for _, m := range sent(r) {
			if m.Kind == api.Pre {
				return n + 1
			}
		}
	}
	return -1
}

// elected: a member that leads, with the votes of some others.
func elected(t testing.TB, me int, m wal.Image, by ...int) *raft.Raft {
	t.Helper()
	r := made(t, me, m)
	lead(t, r, me, by...)
	return r
}

// lead: a member comes to lead, with the votes of some others.
func lead(t testing.TB, r *raft.Raft, me int, by ...int) {
	t.Helper()
	ticks(r, 2*elect)
	sent(r)
	for _, n := range by {
		step(t, r, api.Message{Kind: api.PreOK, From: n, To: me, Term: r.Term() + 1, OK: true})
		if r.Role() == raft.Candidate {
			break
		}
	}
	sent(r)
	for _, n := range by {
		step(t, r, api.Message{Kind: api.Vote, From: n, To: me, Term: r.Term(), OK: true})
	}
	if !r.Leads() {
		t.Fatalf("%d doesn't lead: role %d, term %d", me, r.Role(), r.Term())
	}
}

// ack: a node says that it has all up to an index.
func ack(t testing.TB, r *raft.Raft, from int, i uint64) {
	t.Helper()
	step(t, r, api.Message{Kind: api.Ack, From: from, To: r.Leader(), Term: r.Term(), OK: true, Index: i})
}

// facts: all that a member tells.
type facts struct {
	Role           byte
	Leads, Ready   bool
	Leader         int
	Term, Commit   uint64
	Last, Base     uint64
	Voters         uint64
	Image          wal.Image
	Committed      []api.Entry
	BeyondIsThere  bool
	SnapshotsEntry bool
}

func factsOf(r *raft.Raft) facts {
	f := facts{Role: r.Role(), Leads: r.Leads(), Ready: r.Ready(), Leader: r.Leader(), Term: r.Term(), Commit: r.Commit(),
		Last: r.Last(), Base: r.Base(), Voters: r.Voters(), Image: plainImage(r.Image()), Committed: []api.Entry{}}
	for n := range r.Commit() - r.Base() {
		x, _ := r.Entry(r.Base() + 1 + n)
		f.Committed = append(f.Committed, plainEntry(x))
	}
	_, f.BeyondIsThere = r.Entry(r.Commit() + 1)
	_, f.SnapshotsEntry = r.Entry(r.Base())
	return f
}

// plainEntry, plainImage, plainMessages: with empty lists all alike, so that they can be held against one another.
func plainEntry(x api.Entry) api.Entry {
	x.Data = append([]byte{}, x.Data...)
	return x
}

func plainEntries(l []api.Entry) []api.Entry {
	c := []api.Entry{}
	for _, x := range l {
		c = append(c, plainEntry(x))
	}
	return c
}

func plainImage(m wal.Image) wal.Image {
	m.S.Data = append([]byte{}, m.S.Data...)
	m.L = plainEntries(m.L)
	return m
}

func plainMessages(l []api.Message) []api.Message {
	c := []api.Message{}
	for _, m := range l {
		m.Entries = plainEntries(m.Entries)
		m.S.Data = append([]byte{}, m.S.Data...)
		c = append(c, m)
	}
	return c
}

func sameImage(a, b wal.Image) bool { return reflect.DeepEqual(plainImage(a), plainImage(b)) }

func sameEntries(a, b []api.Entry) bool { return reflect.DeepEqual(plainEntries(a), plainEntries(b)) }

// goes: are just these messages to go?
func goes(t testing.TB, what string, got []api.Message, want ...api.Message) {
	t.Helper()
	if !reflect.DeepEqual(plainMessages(got), plainMessages(want)) {
		t.Errorf("%s: there goes\n%+v, want\n%+v", what, plainMessages(got), plainMessages(want))
	}
}

// net plays members against one another; all is durable at once.
type net struct {
	l   []*raft.Raft
	off uint64 // who is cut off, or crashed, bit by bit
}

func group(t testing.TB, n int) *net {
	t.Helper()
	g := &net{}
	for i := range n {
		g.l = append(g.l, made(t, i, fresh(all(n))))
	}
	return g
}

func (g *net) isOff(n int) bool { return g.off>>n&1 != 0 }

// round: a tick, then messages go to and fro.
func (g *net) round() {
	for _, r := range g.l {
		r.Tick()
	}
	for range 6 {
		var under []api.Message
		for _, r := range g.l {
			under = append(under, sent(r)...)
		}
		for _, m := range under {
			if !g.isOff(m.From) && !g.isOff(m.To) && m.To < len(g.l) {
				g.l[m.To].Step(m)
			}
		}
	}
}

func (g *net) rounds(n int) {
	for range n {
		g.round()
	}
}

// leader: who leads, as all say that aren't off; -1: they aren't at one.
func (g *net) leader() int {
	leader := -2
	for n, r := range g.l {
		if g.isOff(n) {
			continue
		}
		if leader == -2 {
			leader = r.Leader()
		}
		if r.Leader() != leader || r.Leads() != (n == leader) {
			return -1
		}
	}
	return leader
}

// alike: have all that aren't off committed all, and the same?
func (g *net) alike(t testing.TB, what string) {
	t.Helper()
	a := g.leader()
	if a < 0 {
		t.Fatalf("%s: nobody leads", what)
	}
	for n, r := range g.l {
		if g.isOff(n) {
			continue
		}
		if r.Commit() != g.l[a].Last() || r.Last() != g.l[a].Last() {
			t.Errorf("%s: %d has %d of %d, want %d", what, n, r.Commit(), r.Last(), g.l[a].Last())
		}
		for i := uint64(1); i <= r.Commit(); i++ {
			x, isX := r.Entry(i)
			y, isY := g.l[a].Entry(i)
			if isX && isY && !sameEntries([]api.Entry{x}, []api.Entry{y}) {
				t.Errorf("%s: %d has %+v, %d has %+v", what, n, x, a, y)
			}
		}
	}
}
