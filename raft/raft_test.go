package raft_test

import (
	"bytes"
	"fmt"
	"math"
	"reflect"
	"testing"

	"dumbwaiter/api"
	"dumbwaiter/logs"
	"dumbwaiter/raft"
	"dumbwaiter/wal"
)

const top = math.MaxUint64

// P10.1: the roles' numbers, and the batch.
func TestNumbers(t *testing.T) {
	if raft.Follower != 0 || raft.Asker != 1 || raft.Candidate != 2 || raft.Leader != 3 || raft.Batch != 16 {
		t.Error(raft.Follower, raft.Asker, raft.Candidate, raft.Leader, raft.Batch)
	}
}

// P10.1: what a new member tells, by what it has kept.
func TestNew(t *testing.T) {
	voted := append(row(6, 2, 3), api.Entry{Index: 8, Term: 3, Kind: api.Voters, Data: logs.Bytes(3)}, entry(9, 3, "x"))
	for _, c := range []struct {
		m      wal.Image
		last   uint64
		voters uint64
	}{
		{wal.Image{}, 0, 0},
		{fresh(7), 0, 7},
		{wal.Image{H: api.Hard{Term: 3, Vote: 2}, S: api.Snap{Voters: 5}, L: row(1, 1, 1, 3)}, 3, 5},
		{wal.Image{H: api.Hard{Term: 4, Vote: -1}, S: api.Snap{Index: 5, Term: 2, Voters: 7, Data: []byte("state")}}, 5, 7},
		{wal.Image{H: api.Hard{Term: 4, Vote: 0}, S: api.Snap{Index: 5, Term: 2, Voters: 7, Data: []byte("state")}, L: voted}, 9, 3},
		{wal.Image{H: api.Hard{Term: top, Vote: 6}, S: api.Snap{Index: top, Term: top, Voters: top}}, top, top},
	} {
		for me := range api.MaxNodes {
			r := made(t, me, c.m)
			if r.Role() != raft.Follower || r.Leads() || r.Ready() || r.Leader() != -1 || r.Term() != c.m.H.Term {
				t.Errorf("%+v: role %d, leads %v, ready %v, leader %d, term %d", c.m, r.Role(), r.Leads(), r.Ready(), r.Leader(), r.Term())
			}
			if r.Commit() != c.m.S.Index || r.Base() != c.m.S.Index || r.Last() != c.last || r.Voters() != c.voters {
				t.Errorf("%+v: commit %d, base %d, last %d, voters %b", c.m, r.Commit(), r.Base(), r.Last(), r.Voters())
			}
			for _, i := range []uint64{0, 1, c.m.S.Index, c.m.S.Index + 1, c.last, top} {
				if x, ok := r.Entry(i); ok || !reflect.DeepEqual(x, api.Entry{}) {
					t.Errorf("%+v: Entry(%d) = %+v, which isn't committed", c.m, i, x)
				}
			}
			if !sameImage(r.Image(), c.m) {
				t.Errorf("Image = %+v, want %+v", r.Image(), c.m)
			}
			if s, ok := r.Save(); ok || !reflect.DeepEqual(s, wal.Save{}) {
				t.Errorf("%+v: there is %+v to save", c.m, s)
			}
			if s, ok := r.Restore(); ok || !reflect.DeepEqual(s, api.Snap{}) {
				t.Errorf("%+v: %+v has come", c.m, s)
			}
			goes(t, "at first", r.Stable())
		}
	}
}

// P10.1: New's errors, each argument at its edge and beyond; and beside an error nothing.
func TestNewErrors(t *testing.T) {
	good := fresh(7)
	for _, c := range []struct {
		me, beat, elect int
		m               wal.Image
		e               api.Errno
	}{
		{0, 1, 2, good, api.OK},
		{6, 1, 2, good, api.OK},
		{0, math.MaxInt - 1, math.MaxInt, good, api.OK},
		{-1, 1, 2, good, api.ErrArg},
		{7, 1, 2, good, api.ErrArg},
		{math.MinInt, 1, 2, good, api.ErrArg},
		{math.MaxInt, 1, 2, good, api.ErrArg},
		{0, 0, 2, good, api.ErrArg},
		{0, -1, 2, good, api.ErrArg},
		{0, math.MinInt, 2, good, api.ErrArg},
		{0, 2, 2, good, api.ErrArg},
		{0, 2, 1, good, api.ErrArg},
		{0, 1, 0, good, api.ErrArg},
		{0, 1, -1, good, api.ErrArg},
		{0, math.MaxInt, math.MaxInt, good, api.ErrArg},
		{0, 1, 2, wal.Image{L: row(2, 1)}, api.ErrArg},
		{0, 1, 2, wal.Image{L: row(0, 1)}, api.ErrArg},
		{0, 1, 2, wal.Image{S: api.Snap{Index: 5, Term: 2}, L: row(5, 2)}, api.ErrArg},
		{0, 1, 2, wal.Image{S: api.Snap{Index: 5, Term: 2}, L: row(7, 2)}, api.ErrArg},
		{0, 1, 2, wal.Image{S: api.Snap{Index: 5, Term: 2}, L: row(6, 1)}, api.ErrArg},
		{0, 1, 2, wal.Image{S: api.Snap{Index: 5, Term: 2}, L: row(6, 3, 2)}, api.ErrArg},
		{0, 1, 2, wal.Image{S: api.Snap{Index: 5, Term: 2}, L: row(6, 2, 2)}, api.OK},
	} {
		if r, e := raft.New(c.me, c.beat, c.elect, c.m); e != c.e || (r == nil) != (e != api.OK) {
			t.Errorf("New(%d, %d, %d, %+v) = %v, %d, want %d", c.me, c.beat, c.elect, c.m, r, e, c.e)
		}
	}
}

// P10.4, P1: a nil member.
func TestNil(t *testing.T) {
	var r *raft.Raft
	r.Tick()
	r.Draw(0.5)
	want := facts{Leader: -1, Image: plainImage(wal.Image{}), Committed: []api.Entry{}}
	if f := factsOf(r); !reflect.DeepEqual(f, want) {
		t.Errorf("%+v", f)
	}
	if i, e := r.Propose([]byte("x")); i != 0 || e != api.ErrLeader {
		t.Errorf("Propose = %d, %d", i, e)
	}
	if i, e := r.Propose(make([]byte, api.MaxRecord)); i != 0 || e != api.ErrLeader {
		t.Errorf("Propose of too much = %d, %d", i, e)
	}
	for _, voters := range []uint64{0, 1, top} {
		if e := r.Change(voters); e != api.ErrLeader {
			t.Errorf("Change = %d", e)
		}
	}
	for _, m := range []api.Message{{}, {Kind: api.Pre, From: 1, Term: 1}} {
		if e := r.Step(m); e != api.ErrArg {
			t.Errorf("Step = %d", e)
		}
	}
	for _, i := range []uint64{0, 1, top} {
		if e := r.Compact(i, nil); e != api.ErrArg {
			t.Errorf("Compact = %d", e)
		}
	}
	if s, ok := r.Save(); ok || !reflect.DeepEqual(s, wal.Save{}) {
		t.Errorf("Save = %+v", s)
	}
	if s, ok := r.Restore(); ok || !reflect.DeepEqual(s, api.Snap{}) {
		t.Errorf("Restore = %+v", s)
	}
	goes(t, "of nil", r.Stable())
}

// P10.1, P10.2, the chapter's example: a group of one leads after elect ticks, with one entry of no bytes, committed when it is durable.
func TestAlone(t *testing.T) {
	for me := range api.MaxNodes {
		for _, e := range []int{2, 4, 20} {
			r, _ := raft.New(me, 1, e, fresh(1<<me))
			wait := e + min(2*me, e-1)
			ticks(r, wait-1)
			if r.Role() != raft.Follower || r.Term() != 0 {
				t.Errorf("%d, %d: a tick early: role %d", me, e, r.Role())
			}
			r.Tick()
			if !r.Leads() || r.Role() != raft.Leader || r.Leader() != me || r.Term() != 1 || r.Last() != 1 {
				t.Errorf("%d, %d: role %d, term %d", me, e, r.Role(), r.Term())
			}
			if _, ok := r.Entry(1); ok || r.Commit() != 0 || r.Ready() {
				t.Errorf("%d, %d: committed ahead of being kept", me, e)
			}
			s, ok := r.Save()
			if want := (api.Hard{Term: 1, Vote: me}); !ok || !s.Hard || s.H != want || !sameEntries(s.Entries, []api.Entry{{Index: 1, Term: 1}}) {
				t.Errorf("%d, %d: Save = %+v", me, e, s)
			}
			if r.Commit() != 0 {
				t.Errorf("%d, %d: committed ahead of being durable", me, e)
			}
			goes(t, "alone", r.Stable())
			x, ok := r.Entry(1)
			if !ok || !sameEntries([]api.Entry{x}, []api.Entry{{Index: 1, Term: 1, Kind: api.Plain}}) || r.Commit() != 1 || !r.Ready() {
				t.Errorf("%d, %d: %+v, commit %d", me, e, x, r.Commit())
			}
			ticks(r, 100)
			if !r.Leads() || r.Term() != 1 || r.Last() != 1 {
				t.Errorf("%d, %d: it leads no more", me, e)
			}
		}
	}
}

// P10.2: how long it waits: elect ticks, and so many more as were drawn; elect just above beat, a draw at each end, beyond them, and none.
func TestWaits(t *testing.T) {
	for _, e := range []int{2, 3, 4, 10, 100} {
		for me := range api.MaxNodes {
			for _, c := range []struct {
				x    float64
				more int
			}{
				{0, 0}, {math.Copysign(0, -1), 0}, {-1, 0}, {math.Inf(-1), 0}, {math.NaN(), 0},
				{0.5, e / 2}, {0.9999999, e - 1}, {1, e - 1}, {7, e - 1}, {math.Inf(1), e - 1},
			} {
				r, _ := raft.New(me, e-1, e, fresh(all(7)))
				own := e + min(2*me, e-1)
				r.Draw(0.25) // of several that are told the last holds
				r.Draw(c.x)
				if n := asks(r, 3*e); n != own {
					t.Errorf("%d, elect %d: it asks after %d, though nothing was drawn when that wait began", me, e, n)
				}
				if n := asks(r, 3*e); n != e+c.more {
					t.Errorf("%d, elect %d, drawn %v: it asks after %d, want %d", me, e, c.x, n, e+c.more)
				}
				if n := asks(r, 3*e); n != own {
					t.Errorf("%d, elect %d: it asks after %d, though the draw was used", me, e, n)
				}
				if r.Role() != raft.Asker || r.Term() != 0 {
					t.Errorf("role %d, term %d", r.Role(), r.Term())
				}
			}
		}
	}
	r, _ := raft.New(1, 1, math.MaxInt, fresh(7))
	r.Draw(1)
	step(t, r, api.Message{Kind: api.Append, From: 0, To: 1, Term: 1})
	if n := asks(r, 50); n != -1 {
		t.Errorf("the greatest elect: it asks after %d", n)
	}
}

// P10.2: each word of a leader begins the wait anew, and draws; nothing else does.
func TestWhatBeginsAWait(t *testing.T) {
	heard := func(m api.Message) int {
		r := made(t, 1, wal.Image{H: api.Hard{Term: 3, Vote: -1}, S: api.Snap{Index: 2, Term: 2, Voters: 7}, L: row(3, 3)})
		r.Draw(0.25)
		ticks(r, 3)
		step(t, r, m)
		return asks(r, 20)
	}
	const anew, on = elect + 1, elect + 2 - 3
	for _, c := range []struct {
		what string
		m    api.Message
		want int
	}{
		{"a heartbeat", api.Message{Kind: api.Append, From: 0, To: 1, Term: 3, Index: 3, LogTerm: 3}, anew},
		{"one of a later term", api.Message{Kind: api.Append, From: 2, To: 1, Term: 9, Index: 3, LogTerm: 3}, anew},
		{"one that doesn't fit", api.Message{Kind: api.Append, From: 0, To: 1, Term: 3, Index: 9, LogTerm: 3}, anew},
		{"a snapshot", api.Message{Kind: api.Install, From: 0, To: 1, Term: 3, S: api.Snap{Index: 9, Term: 3, Voters: 7}}, anew},
		{"a snapshot that is old", api.Message{Kind: api.Install, From: 0, To: 1, Term: 3, S: api.Snap{Index: 1, Term: 1, Voters: 7}}, anew},
		{"a heartbeat of an earlier term", api.Message{Kind: api.Append, From: 0, To: 1, Term: 2, Index: 3, LogTerm: 3}, on},
		{"a snapshot of an earlier term", api.Message{Kind: api.Install, From: 0, To: 1, Term: 2, S: api.Snap{Index: 9, Term: 2, Voters: 7}}, on},
		{"a vote that it gives", api.Message{Kind: api.Ask, From: 0, To: 1, Term: 4, Index: 3, LogTerm: 3}, on},
		{"a vote that it refuses", api.Message{Kind: api.Ask, From: 0, To: 1, Term: 4, Index: 1, LogTerm: 1}, on},
		{"a question", api.Message{Kind: api.Pre, From: 0, To: 1, Term: 4, Index: 3, LogTerm: 3}, on},
		{"an answer", api.Message{Kind: api.Ack, From: 0, To: 1, Term: 3, Index: 3, OK: true}, on},
	} {
		if n := heard(c.m); n != c.want {
			t.Errorf("%s: it asks after %d, want %d", c.what, n, c.want)
		}
	}
	r := elected(t, 0, fresh(7), 1)
	r.Tick()
	step(t, r, api.Message{Kind: api.Ask, From: 2, To: 0, Term: 9})
	if n := asks(r, 20); n != elect {
		t.Errorf("who has led asks after %d", n)
	}
}

// P10.2: who doesn't vote doesn't ask.
func TestWhoDoesNotVote(t *testing.T) {
	for _, voters := range []uint64{0, 2, 6, all(7) &^ 1} {
		r := made(t, 0, fresh(voters))
		if n := asks(r, 50); n != -1 || r.Role() != raft.Follower || r.Term() != 0 {
			t.Errorf("%b: it asks after %d", voters, n)
		}
	}
	r := made(t, 2, fresh(3))
	change := api.Entry{Index: 1, Term: 1, Kind: api.Voters, Data: logs.Bytes(7)}
	step(t, r, api.Message{Kind: api.Append, From: 0, To: 2, Term: 1, Entries: []api.Entry{change}})
	if r.Voters() != 7 || r.Commit() != 0 {
		t.Errorf("Voters = %b", r.Voters())
	}
	if n := asks(r, 50); n != 2*elect-1 {
		t.Errorf("who votes by an entry that isn't committed asks after %d", n)
	}
}

// P10.2: what asking looks like, from the wait's end on till it leads.
func TestAsking(t *testing.T) {
	m := wal.Image{H: api.Hard{Term: 5, Vote: 0}, S: api.Snap{Index: 2, Term: 1, Voters: 7}, L: row(3, 1, 4)}
	r := made(t, 1, m)
	step(t, r, api.Message{Kind: api.Append, From: 0, To: 1, Term: 5, Index: 4, LogTerm: 4})
	goes(t, "heard", sent(r), api.Message{Kind: api.Ack, From: 1, To: 0, Term: 5, OK: true, Index: 4})
	if r.Leader() != 0 {
		t.Errorf("leader %d", r.Leader())
	}
	ticks(r, elect+2)
	if r.Role() != raft.Asker || r.Term() != 5 || r.Leader() != -1 {
		t.Errorf("role %d, term %d, leader %d", r.Role(), r.Term(), r.Leader())
	}
	if s, ok := r.Save(); ok {
		t.Errorf("asking keeps %+v", s)
	}
	pre := func(n int) api.Message {
		return api.Message{Kind: api.Pre, From: 1, To: n, Term: 6, Index: 4, LogTerm: 4}
	}
	goes(t, "asking", r.Stable(), pre(0), pre(2))

	step(t, r, api.Message{Kind: api.PreOK, From: 2, To: 1, Term: 6, OK: true})
	if r.Role() != raft.Candidate || r.Term() != 6 || r.Leader() != -1 {
		t.Errorf("role %d, term %d, leader %d", r.Role(), r.Term(), r.Leader())
	}
	s, ok := r.Save()
	if want := (wal.Save{Hard: true, H: api.Hard{Term: 6, Vote: 1}}); !ok || s.H != want.H || !s.Hard || len(s.Entries) > 0 {
		t.Errorf("a candidate keeps %+v", s)
	}
	ask := func(n int) api.Message {
		return api.Message{Kind: api.Ask, From: 1, To: n, Term: 6, Index: 4, LogTerm: 4}
	}
	goes(t, "a candidate", r.Stable(), ask(0), ask(2))

	step(t, r, api.Message{Kind: api.Vote, From: 0, To: 1, Term: 6, OK: true})
	if r.Role() != raft.Leader || !r.Leads() || r.Ready() || r.Leader() != 1 || r.Last() != 5 || r.Commit() != 2 {
		t.Errorf("role %d, leader %d, last %d, commit %d", r.Role(), r.Leader(), r.Last(), r.Commit())
	}
	s, ok = r.Save()
	if !ok || s.Hard || s.H != (api.Hard{}) || !sameEntries(s.Entries, []api.Entry{{Index: 5, Term: 6}}) {
		t.Errorf("a leader keeps %+v", s)
	}
	first := func(n int) api.Message {
		return api.Message{Kind: api.Append, From: 1, To: n, Term: 6, Index: 4, LogTerm: 4, Commit: 2, Entries: []api.Entry{{Index: 5, Term: 6}}}
	}
	goes(t, "a leader", r.Stable(), first(0), first(2))
}

// P10.2: a candidate that isn't elected asks again; old answers are nothing.
func TestAskingAgain(t *testing.T) {
	r := made(t, 0, fresh(7))
	ticks(r, elect)
	for _, m := range []api.Message{
		{Kind: api.PreOK, From: 1, To: 0, Term: 1},
		{Kind: api.PreOK, From: 1, To: 0, Term: 2, OK: true},
		{Kind: api.PreOK, From: 3, To: 0, Term: 1, OK: true}, // it doesn't vote
		{Kind: api.Vote, From: 1, To: 0, Term: 1, OK: false},
	} {
		q := made(t, 0, fresh(7))
		ticks(q, elect)
		step(t, q, m)
		if q.Role() > raft.Asker {
			t.Errorf("%+v: role %d", m, q.Role())
		}
	}
	step(t, r, api.Message{Kind: api.PreOK, From: 1, To: 0, Term: 1, OK: true})
	sent(r)
	for _, m := range []api.Message{
		{Kind: api.Vote, From: 1, To: 0, Term: 1},
		{Kind: api.PreOK, From: 2, To: 0, Term: 1, OK: true},
		{Kind: api.PreOK, From: 2, To: 0, Term: 2, OK: true},
		{Kind: api.Vote, From: 4, To: 0, Term: 1, OK: true},
	} {
		step(t, r, m)
		if r.Role() != raft.Candidate || r.Term() != 1 {
			t.Errorf("%+v: role %d, term %d", m, r.Role(), r.Term())
		}
	}
	if n := asks(r, 20); n != elect || r.Role() != raft.Asker || r.Term() != 1 {
		t.Errorf("it asks again after %d, role %d, term %d", n, r.Role(), r.Term())
	}
	step(t, r, api.Message{Kind: api.Vote, From: 1, To: 0, Term: 1, OK: true})
	if r.Leads() {
		t.Error("a vote for who isn't a candidate any more")
	}
	step(t, r, api.Message{Kind: api.PreOK, From: 1, To: 0, Term: 2, OK: true})
	sent(r)
	step(t, r, api.Message{Kind: api.Vote, From: 1, To: 0, Term: 1, OK: true})
	if r.Role() != raft.Candidate || r.Term() != 2 {
		t.Errorf("a vote of an earlier term: role %d, term %d", r.Role(), r.Term())
	}
}

// P10.2: most: more than half of those that vote, of groups of each size.
func TestMost(t *testing.T) {
	for n := 2; n <= api.MaxNodes; n++ {
		most := n/2 + 1
		for _, kind := range []byte{api.PreOK, api.Vote} {
			r := made(t, 0, fresh(all(n)))
			ticks(r, elect)
			if kind == api.Vote {
				for i := 1; i < most; i++ {
					step(t, r, api.Message{Kind: api.PreOK, From: i, To: 0, Term: 1, OK: true})
				}
			}
			sent(r)
			now := r.Role()
			for i := 1; i < most; i++ {
				if r.Role() != now {
					t.Errorf("%d of %d are most", i, n)
				}
				for range 3 { // one's answer counts once
					step(t, r, api.Message{Kind: kind, From: i, To: 0, Term: 1, OK: true})
					if i < most-1 && r.Role() != now {
						t.Errorf("%d of %d are most", i+1, n)
					}
				}
			}
			if r.Role() != now+1 {
				t.Errorf("%d of %d aren't most: role %d", most, n, r.Role())
			}
		}
	}
}

// P10.2: who would vote: nobody that leads, or knows a leader of whom it has heard in elect ticks; only in a term above its own; for nobody with older entries. Its own term stays.
func TestPre(t *testing.T) {
	m := wal.Image{H: api.Hard{Term: 5, Vote: 2}, S: api.Snap{Index: 2, Term: 1, Voters: 7}, L: row(3, 1, 4)}
	for _, c := range []struct {
		what                 string
		term, index, logTerm uint64
		ok                   bool
	}{
		{"the same entries", 6, 4, 4, true},
		{"a term far above", top, 4, 4, true},
		{"more entries", 6, 9, 4, true},
		{"fewer entries of a later term", 6, 1, 5, true},
		{"its own term", 5, 4, 4, false},
		{"an earlier term", 1, 4, 4, false},
		{"one entry fewer", 6, 3, 4, false},
		{"more entries of an earlier term", 6, 99, 3, false},
		{"nothing", 6, 0, 0, false},
	} {
		r := made(t, 1, m)
		before := factsOf(r)
		step(t, r, api.Message{Kind: api.Pre, From: 3, To: 1, Term: c.term, Index: c.index, LogTerm: c.logTerm})
		if f := factsOf(r); !reflect.DeepEqual(f, before) {
			t.Errorf("%s: %+v, before %+v", c.what, f, before)
		}
		if s, ok := r.Save(); ok {
			t.Errorf("%s: it keeps %+v", c.what, s)
		}
		want := api.Message{Kind: api.PreOK, From: 1, To: 3, Term: 5}
		if c.ok {
			want.Term, want.OK = c.term, true
		}
		goes(t, c.what, r.Stable(), want)
	}
	r := made(t, 1, fresh(7))
	would := func() bool {
		step(t, r, api.Message{Kind: api.Pre, From: 2, To: 1, Term: r.Term() + 1, Index: 99, LogTerm: 99})
		l := sent(r)
		return l[len(l)-1].OK
	}
	if !would() {
		t.Error("who knows no leader wouldn't")
	}
	r.Draw(1)
	step(t, r, api.Message{Kind: api.Append, From: 0, To: 1, Term: 1})
	for n := range elect {
		if would() {
			t.Errorf("who has heard of a leader %d ticks ago would", n)
		}
		r.Tick()
	}
	if !would() {
		t.Error("who hasn't heard of its leader for elect ticks wouldn't")
	}
	if r.Leader() != 0 || r.Role() != raft.Follower {
		t.Errorf("leader %d, role %d", r.Leader(), r.Role())
	}
	ticks(r, elect-1)
	if !would() || r.Role() != raft.Asker {
		t.Error("who asks wouldn't")
	}
	lead(t, r, 1, 2)
	for range 3 * elect {
		if would() {
			t.Error("who leads would")
		}
		r.Tick()
	}
}

// P10.2: one that asks learns of a later term by a refusal, and so isn't refused for ever; it is never told the term 0.
func TestRefusalTellsTheTerm(t *testing.T) {
	r := made(t, 0, fresh(7))
	ticks(r, elect)
	step(t, r, api.Message{Kind: api.PreOK, From: 1, To: 0, Term: 8})
	if r.Term() != 8 || r.Role() != raft.Follower {
		t.Errorf("term %d, role %d", r.Term(), r.Role())
	}
	r = made(t, 0, wal.Image{S: api.Snap{Index: 5, Voters: 7}})
	step(t, r, api.Message{Kind: api.Pre, From: 1, To: 0, Term: 1})
	l := sent(r)
	if len(l) != 1 || l[0].OK || l[0].Term == 0 {
		t.Errorf("%+v", l)
	}
}

// P10.4: it votes once in a term, and keeps for whom, and for nobody whose entries are older.
func TestVotes(t *testing.T) {
	r := made(t, 1, wal.Image{H: api.Hard{Term: 5, Vote: -1}, S: api.Snap{Index: 2, Term: 1, Voters: 7}, L: row(3, 1, 4)})
	for n, c := range []struct {
		from           int
		term           uint64
		index, logTerm uint64
		ok             bool
		hard           api.Hard
	}{
		{0, 4, 9, 9, false, api.Hard{Term: 5, Vote: -1}},
		{0, 5, 3, 4, false, api.Hard{Term: 5, Vote: -1}},
		{0, 5, 99, 3, false, api.Hard{Term: 5, Vote: -1}},
		{2, 5, 4, 4, true, api.Hard{Term: 5, Vote: 2}},
		{0, 5, 9, 9, false, api.Hard{Term: 5, Vote: 2}},
		{2, 5, 4, 4, true, api.Hard{Term: 5, Vote: 2}},
		{0, 6, 3, 4, false, api.Hard{Term: 6, Vote: -1}},
		{6, 6, 5, 4, true, api.Hard{Term: 6, Vote: 6}},
		{2, 6, 5, 4, false, api.Hard{Term: 6, Vote: 6}},
		{0, 9, 1, 5, true, api.Hard{Term: 9, Vote: 0}},
		{0, 8, 9, 9, false, api.Hard{Term: 9, Vote: 0}},
	} {
		before := r.Image().H
		step(t, r, api.Message{Kind: api.Ask, From: c.from, To: 1, Term: c.term, Index: c.index, LogTerm: c.logTerm})
		s, ok := r.Save()
		if r.Image().H != c.hard || r.Term() != c.hard.Term || ok != (before != c.hard) || ok && s.H != c.hard {
			t.Errorf("%d: %+v, saved %+v, want %+v", n, r.Image().H, s, c.hard)
		}
		goes(t, fmt.Sprint(n), r.Stable(), api.Message{Kind: api.Vote, From: 1, To: c.from, Term: c.hard.Term, OK: c.ok})
		r = made(t, 1, r.Image()) // what was kept holds for who comes back
	}
	r = made(t, 0, fresh(7))
	ticks(r, elect)
	sent(r)
	step(t, r, api.Message{Kind: api.PreOK, From: 1, To: 0, Term: 1, OK: true})
	sent(r)
	step(t, r, api.Message{Kind: api.Ask, From: 1, To: 0, Term: 1, Index: 9, LogTerm: 9})
	goes(t, "a candidate has its own vote", sent(r), api.Message{Kind: api.Vote, From: 0, To: 1, Term: 1})
	step(t, r, api.Message{Kind: api.Ask, From: 1, To: 0, Term: 2, Index: 9, LogTerm: 9})
	goes(t, "of a later term it votes", sent(r), api.Message{Kind: api.Vote, From: 0, To: 1, Term: 2, OK: true})
	if r.Role() != raft.Follower {
		t.Errorf("role %d", r.Role())
	}
}

// P10.4: each message of a later term ends what it is, but Pre, and PreOK that says yes.
func TestLaterTerms(t *testing.T) {
	for kind := api.Pre; kind <= api.Install; kind++ {
		for _, ok := range []bool{false, true} {
			r := elected(t, 0, fresh(7), 1)
			step(t, r, api.Message{Kind: kind, From: 2, To: 0, Term: r.Term() + 3, OK: ok})
			stays := kind == api.Pre || kind == api.PreOK && ok
			if r.Leads() != stays || (r.Term() == 1) != stays {
				t.Errorf("kind %d, %v: leads %v, term %d", kind, ok, r.Leads(), r.Term())
			}
			leader := -1
			if stays {
				leader = 0
			}
			if kind == api.Append || kind == api.Install {
				leader = 2
			}
			if r.Leader() != leader {
				t.Errorf("kind %d, %v: leader %d", kind, ok, r.Leader())
			}
			if _, e := r.Propose(nil); (e == api.ErrLeader) == stays {
				t.Errorf("kind %d, %v: Propose = %d", kind, ok, e)
			}
		}
	}
	r := elected(t, 0, fresh(7), 1)
	before := factsOf(r)
	sent(r)
	for _, kind := range []byte{api.Append, api.Install} {
		step(t, r, api.Message{Kind: kind, From: 2, To: 0, Term: 1, S: api.Snap{Index: 9, Term: 1}})
	}
	if f := factsOf(r); !reflect.DeepEqual(f, before) {
		t.Errorf("none but itself leads in its term: %+v, before %+v", f, before)
	}
	goes(t, "and none is answered", sent(r))
	f := made(t, 0, wal.Image{H: api.Hard{Term: 4, Vote: -1}, S: api.Snap{Voters: 7}})
	for _, kind := range []byte{api.Append, api.Install} {
		step(t, f, api.Message{Kind: kind, From: 2, To: 0, Term: 3, Entries: row(1, 3), Commit: 1, S: api.Snap{Index: 9, Term: 1}})
		goes(t, "an earlier leader hears of the term", sent(f), api.Message{Kind: api.Ack, From: 0, To: 2, Term: 4})
		if f.Last() != 0 || f.Leader() != -1 {
			t.Errorf("of an earlier leader: last %d, leader %d", f.Last(), f.Leader())
		}
	}
}

// P10.4: who would have won by what a crash may undo doesn't lead till it is durable; else another might lead in that term.
func TestLeadsByWhatIsDurable(t *testing.T) {
	r := elected(t, 0, fresh(3), 1)
	sent(r)
	ack(t, r, 1, 1)
	if e := r.Change(1); e != api.OK || r.Voters() != 1 {
		t.Fatalf("Change = %d", e)
	}
	step(t, r, api.Message{Kind: api.Ask, From: 1, To: 0, Term: 2, Index: 1, LogTerm: 1})
	ticks(r, 10*elect)
	if r.Leads() || r.Role() != raft.Candidate || r.Term() != 3 || r.Leader() != -1 {
		t.Errorf("role %d, term %d", r.Role(), r.Term())
	}
	if _, e := r.Propose(nil); e != api.ErrLeader {
		t.Errorf("Propose = %d", e)
	}
	r.Stable() // of what was saved ahead of all that
	if r.Leads() {
		t.Error("it leads by what isn't saved")
	}
	s, _ := r.Save()
	if s.H != (api.Hard{Term: 3, Vote: 0}) || len(s.Entries) != 2 || r.Leads() {
		t.Errorf("saved %+v", s)
	}
	r.Stable()
	if !r.Leads() || r.Term() != 3 || r.Last() != 3 || r.Commit() != 3 || !r.Ready() {
		t.Errorf("role %d, term %d, commit %d of %d", r.Role(), r.Term(), r.Commit(), r.Last())
	}
	for _, m := range []wal.Image{ // it alone votes, but another one may have, and may lead still
		{H: api.Hard{Term: 1, Vote: -1}, S: api.Snap{Voters: 3}, L: []api.Entry{{Index: 1, Term: 1, Kind: api.Voters, Data: logs.Bytes(1)}}},
		{H: api.Hard{Term: 1, Vote: -1}, S: api.Snap{Index: 1, Term: 1, Voters: 1}},
	} {
		r := made(t, 0, m)
		ticks(r, 3*elect)
		if r.Leads() || r.Role() != raft.Candidate || r.Term() != 2 {
			t.Errorf("role %d, term %d", r.Role(), r.Term())
		}
		sent(r)
		if !r.Ready() || r.Term() != 2 || r.Commit() != 2 {
			t.Errorf("role %d, term %d, commit %d", r.Role(), r.Term(), r.Commit())
		}
	}
}

// P10.4: a vote that comes ahead of its own being durable isn't enough; and it begins but once.
func TestVotesAheadOfItsOwn(t *testing.T) {
	r := made(t, 0, fresh(7))
	ticks(r, elect)
	step(t, r, api.Message{Kind: api.PreOK, From: 1, To: 0, Term: 1, OK: true})
	r.Save()
	for n := 1; n < 3; n++ {
		step(t, r, api.Message{Kind: api.Vote, From: n, To: 0, Term: 1, OK: true})
		if r.Leads() {
			t.Error("it leads by a vote that isn't durable")
		}
	}
	r.Stable()
	if !r.Leads() || r.Last() != 1 {
		t.Errorf("role %d, last %d", r.Role(), r.Last())
	}
}

// P10.4: what nodes had of a leader in an earlier term says nothing of what they have in a later one.
func TestLeadsOnceMore(t *testing.T) {
	r := elected(t, 0, fresh(7), 1)
	for range 4 {
		r.Propose([]byte("x"))
	}
	sent(r)
	ack(t, r, 1, 5)
	if r.Commit() != 5 {
		t.Fatalf("commit %d", r.Commit())
	}
	r = elected(t, 0, fresh(all(5)), 1, 2)
	for range 4 {
		r.Propose([]byte("x"))
	}
	sent(r)
	ack(t, r, 1, 5)
	step(t, r, api.Message{Kind: api.Append, From: 3, To: 0, Term: 2, Entries: row(1, 2)})
	if r.Leads() || r.Last() != 1 {
		t.Fatalf("role %d, last %d", r.Role(), r.Last())
	}
	lead(t, r, 0, 3, 4)
	sent(r)
	ack(t, r, 2, 2)
	if r.Commit() != 0 || r.Ready() {
		t.Errorf("commit %d: two of five have it", r.Commit())
	}
	ack(t, r, 3, 2)
	if r.Commit() != 2 {
		t.Errorf("commit %d: three of five have it", r.Commit())
	}
}

// P10.2: when a leader tells all others: when it begins, each beat ticks, behind each Propose and Change; who doesn't vote isn't told.
func TestWhenALeaderTells(t *testing.T) {
	r := elected(t, 1, fresh(all(5)&^8), 0, 2)
	told := func(what string, want ...int) {
		t.Helper()
		var got []int
		for _, m := range sent(r) {
			if m.Kind != api.Append || m.From != 1 || m.Term != 1 {
				t.Errorf("%s: %+v", what, m)
			}
			got = append(got, m.To)
		}
		if !reflect.DeepEqual(got, want) {
			t.Errorf("%s: told %v, want %v", what, got, want)
		}
	}
	told("when it begins", 0, 2, 4)
	told("nothing new")
	for n := range 6 {
		r.Tick()
		if (n+1)%beat == 0 {
			told("a beat", 0, 2, 4)
		} else {
			told("between beats")
		}
	}
	r.Tick()
	if i, e := r.Propose([]byte("x")); i != 2 || e != api.OK {
		t.Errorf("Propose = %d, %d", i, e)
	}
	told("Propose", 0, 2, 4)
	r.Tick()
	told("a beat, whatever was proposed", 0, 2, 4)
	ack(t, r, 0, 2)
	ack(t, r, 2, 2)
	told("who has all isn't told")
	if r.Commit() != 2 {
		t.Fatalf("commit %d", r.Commit())
	}
	if e := r.Change(all(5)); e != api.OK {
		t.Errorf("Change = %d", e)
	}
	told("Change, to who votes now", 0, 2, 3, 4)
	ack(t, r, 0, 3)
	ack(t, r, 3, 3)
	if r.Change(all(5)&^16) != api.OK {
		t.Error("Change")
	}
	told("Change, to who still votes", 0, 2, 3)
	ack(t, r, 4, 3)
	told("who votes no more isn't told, whatever it lacks")
	for _, c := range []int{1, 3, 7} {
		q, _ := raft.New(0, c, 8, fresh(3))
		ticks(q, 8)
		step(t, q, api.Message{Kind: api.PreOK, From: 1, To: 0, Term: 1, OK: true})
		sent(q)
		step(t, q, api.Message{Kind: api.Vote, From: 1, To: 0, Term: 1, OK: true})
		sent(q)
		for n := range 3 * c {
			q.Tick()
			if l := sent(q); len(l) != 0 != ((n+1)%c == 0) {
				t.Errorf("beat %d: %d tells at %d", c, len(l), n+1)
			}
		}
	}
}

// P10.2: what is told: what that one may lack, sixteen entries at most; one that lacks some, by its answer, is told at once.
func TestWhatALeaderTells(t *testing.T) {
	for _, more := range []int{1, 15, 16, 17, 40} {
		r := elected(t, 0, fresh(7), 1)
		sent(r)
		for n := range more - 1 {
			r.Propose([]byte{byte(n)})
		}
		l := to(sent(r), 1)
		if more == 1 {
			l = []api.Message{{Kind: api.Append, To: 1, Entries: []api.Entry{{Index: 1, Term: 1}}}}
		}
		if len(l) != 1 || l[0].Kind != api.Append || l[0].Index != 0 || l[0].LogTerm != 0 || !sameEntries(l[0].Entries, r.Image().L[:min(more, 16)]) {
			t.Errorf("%d entries: told %+v", more, l)
		}
		have := uint64(min(more, 16))
		for have < uint64(more) {
			ack(t, r, 1, have)
			l = sent(r)
			if len(l) != 1 || l[0].To != 1 || l[0].Index != have || l[0].LogTerm != 1 || l[0].Commit != have {
				t.Fatalf("%d entries: behind %d told %+v", more, have, l)
			}
			next := min(have+16, uint64(more))
			if !sameEntries(l[0].Entries, r.Image().L[have:next]) {
				t.Errorf("%d entries: behind %d told %d", more, have, len(l[0].Entries))
			}
			have = next
		}
		ack(t, r, 1, have)
		goes(t, "who has all", sent(r))
		ticks(r, beat)
		l = to(sent(r), 1)
		goes(t, "a heartbeat", l, api.Message{Kind: api.Append, From: 0, To: 1, Term: 1, Index: have, LogTerm: 1, Commit: have})
	}
}

// P10.2: one that hasn't got the entries ahead is told from where it may be tried, or gets the snapshot.
func TestPlacesToTry(t *testing.T) {
	m := wal.Image{H: api.Hard{Term: 4, Vote: -1}, S: api.Snap{Index: 10, Term: 2, Voters: 7, Data: []byte("state")}, L: row(11, 2, 3, 3, 4)}
	r := elected(t, 0, m, 1)
	no := func(from int, i uint64) []api.Message {
		step(t, r, api.Message{Kind: api.Ack, From: from, To: 0, Term: 5, Index: i})
		return sent(r)
	}
	log := append(row(11, 2, 3, 3, 4), api.Entry{Index: 15, Term: 5})
	goes(t, "when it begins", sent(r),
		api.Message{Kind: api.Append, From: 0, To: 1, Term: 5, Index: 14, LogTerm: 4, Commit: 10, Entries: log[4:]},
		api.Message{Kind: api.Append, From: 0, To: 2, Term: 5, Index: 14, LogTerm: 4, Commit: 10, Entries: log[4:]})
	goes(t, "a lower place", no(1, 12), api.Message{Kind: api.Append, From: 0, To: 1, Term: 5, Index: 12, LogTerm: 3, Commit: 10, Entries: log[2:]})
	goes(t, "a place above is no news", no(1, 13), api.Message{Kind: api.Append, From: 0, To: 1, Term: 5, Index: 12, LogTerm: 3, Commit: 10, Entries: log[2:]})
	goes(t, "a place that isn't there", no(1, top), api.Message{Kind: api.Append, From: 0, To: 1, Term: 5, Index: 12, LogTerm: 3, Commit: 10, Entries: log[2:]})
	goes(t, "the snapshot's own", no(1, 10), api.Message{Kind: api.Append, From: 0, To: 1, Term: 5, Index: 10, LogTerm: 2, Commit: 10, Entries: log})
	install := api.Message{Kind: api.Install, From: 0, To: 1, Term: 5, S: m.S}
	goes(t, "below the snapshot", no(1, 9), install)
	goes(t, "far below it", no(1, 0), install)
	ticks(r, beat)
	goes(t, "and each beat", to(sent(r), 1), install)
	ack(t, r, 1, 10)
	goes(t, "who has the snapshot", sent(r), api.Message{Kind: api.Append, From: 0, To: 1, Term: 5, Index: 10, LogTerm: 2, Commit: 10, Entries: log})
	ack(t, r, 1, 13)
	goes(t, "more", sent(r), api.Message{Kind: api.Append, From: 0, To: 1, Term: 5, Index: 13, LogTerm: 3, Commit: 10, Entries: log[3:]})
	goes(t, "an old answer that comes late", no(1, 3), api.Message{Kind: api.Append, From: 0, To: 1, Term: 5, Index: 13, LogTerm: 3, Commit: 10, Entries: log[3:]})
	ack(t, r, 1, 11)
	goes(t, "another one", sent(r), api.Message{Kind: api.Append, From: 0, To: 1, Term: 5, Index: 13, LogTerm: 3, Commit: 10, Entries: log[3:]})
	if r.Commit() != 10 {
		t.Errorf("commit %d", r.Commit())
	}
	ack(t, r, 1, 15)
	if r.Commit() != 15 {
		t.Errorf("commit %d", r.Commit())
	}
	goes(t, "an old one, of who has all", no(1, 3))
}

// P10.2: answers that no member gives, or of other terms, are nothing.
func TestAnswersThatAreNone(t *testing.T) {
	r := elected(t, 0, wal.Image{H: api.Hard{Term: 4, Vote: -1}, S: api.Snap{Voters: 7}, L: row(1, 4)}, 1)
	sent(r)
	before := factsOf(r)
	for _, m := range []api.Message{
		{Kind: api.Ack, From: 1, To: 0, Term: 4, OK: true, Index: 2},
		{Kind: api.Ack, From: 1, To: 0, Term: 5, OK: true, Index: 3},
		{Kind: api.Ack, From: 1, To: 0, Term: 5, OK: true, Index: top},
		{Kind: api.Ack, From: 5, To: 0, Term: 5, OK: true, Index: 2},
		{Kind: api.Ack, From: 1, To: 0, Term: 5, OK: true, Index: 0},
		{Kind: api.Ack, From: 1, To: 0, Term: 5, OK: true, Index: 1},
		{Kind: api.Ack, From: 1, To: 0, Term: 5, Index: 2},
		{Kind: api.Vote, From: 2, To: 0, Term: 5, OK: true},
		{Kind: api.PreOK, From: 2, To: 0, Term: 6, OK: true},
	} {
		step(t, r, m)
		if f := factsOf(r); !reflect.DeepEqual(f, before) {
			t.Errorf("%+v: %+v, before %+v", m, f, before)
		}
	}
	f := made(t, 0, fresh(7))
	step(t, f, api.Message{Kind: api.Ack, From: 1, To: 0, Term: 1, OK: true, Index: 0})
	goes(t, "who doesn't lead", sent(f))
}

// P10.2, P10.4: committed is what most have, of groups of each size; the leader's own counts when it is durable.
func TestCommit(t *testing.T) {
	for n := 2; n <= api.MaxNodes; n++ {
		var by []int
		for i := 1; i < n; i++ {
			by = append(by, i)
		}
		for _, own := range []bool{true, false} {
			r := elected(t, 0, fresh(all(n)), by...)
			if own {
				sent(r)
			}
			need := n/2 + 1
			if own {
				need--
			}
			if need > n-1 {
				need = n - 1 // two: its own is needed
			}
			for i := 1; i <= need; i++ {
				if r.Commit() != 0 || r.Ready() {
					t.Errorf("%d nodes, own %v: committed with %d", n, own, i-1)
				}
				for range 3 {
					ack(t, r, i, 1)
				}
			}
			if n == 2 && !own {
				if r.Commit() != 0 {
					t.Error("its own isn't durable")
				}
				sent(r)
			}
			if r.Commit() != 1 || !r.Ready() {
				t.Errorf("%d nodes, own %v: commit %d", n, own, r.Commit())
			}
		}
	}
}

// P10.2: an answer that comes late takes nothing back.
func TestLateAnswers(t *testing.T) {
	r := elected(t, 0, fresh(all(5)), 1, 2)
	r.Propose(nil)
	sent(r)
	ack(t, r, 1, 2)
	ack(t, r, 1, 1)
	step(t, r, api.Message{Kind: api.Ack, From: 1, To: 0, Term: 1})
	ack(t, r, 2, 2)
	if r.Commit() != 2 {
		t.Errorf("commit %d", r.Commit())
	}
}

// P10.4: an entry of an earlier term that most have isn't committed till one of the leader's own term is.
func TestEarlierTerms(t *testing.T) {
	m := wal.Image{H: api.Hard{Term: 4, Vote: -1}, S: api.Snap{Voters: 7}, L: row(1, 2, 4, 4)}
	r := elected(t, 0, m, 1)
	sent(r)
	for i := uint64(1); i <= 3; i++ {
		ack(t, r, 1, i)
		ack(t, r, 2, i)
		if r.Commit() != 0 || r.Ready() || r.Change(3) != api.ErrConflict {
			t.Errorf("%d of an earlier term is committed", i)
		}
	}
	ack(t, r, 2, 4)
	if r.Commit() != 4 || !r.Ready() {
		t.Errorf("commit %d", r.Commit())
	}
	for i, want := range append(row(1, 2, 4, 4), api.Entry{Index: 4, Term: 5}) {
		if x, ok := r.Entry(uint64(i + 1)); !ok || !sameEntries([]api.Entry{x}, []api.Entry{want}) {
			t.Errorf("Entry(%d) = %+v", i+1, x)
		}
	}
}

// P10.2: Propose: each index, ErrLeader ahead of ErrLong, data of none, of the most bytes, and one more; nothing changes beside an error.
func TestPropose(t *testing.T) {
	most := bytes.Repeat([]byte("0123456789abcdef"), api.MaxRecord/32)
	more := append(bytes.Clone(most), 0)
	g := group(t, 3)
	g.rounds(10)
	a := g.leader()
	b := (a + 1) % 3
	for _, data := range [][]byte{nil, most, more} {
		before := factsOf(g.l[b])
		if i, e := g.l[b].Propose(data); i != 0 || e != api.ErrLeader {
			t.Errorf("who doesn't lead: %d, %d", i, e)
		}
		if f := factsOf(g.l[b]); !reflect.DeepEqual(f, before) {
			t.Errorf("ErrLeader, and %+v", f)
		}
	}
	sent(g.l[a])
	before := factsOf(g.l[a])
	if i, e := g.l[a].Propose(more); i != 0 || e != api.ErrLong {
		t.Errorf("too long: %d, %d", i, e)
	}
	if f := factsOf(g.l[a]); !reflect.DeepEqual(f, before) {
		t.Errorf("ErrLong, and %+v", f)
	}
	goes(t, "ErrLong", sent(g.l[a]))
	for n, data := range [][]byte{nil, most, {}, []byte("x"), most, most} {
		if i, e := g.l[a].Propose(data); i != uint64(n+2) || e != api.OK || g.l[a].Last() != i {
			t.Errorf("Propose of %d = %d, %d", len(data), i, e)
		}
	}
	g.rounds(6)
	g.alike(t, "data of the most bytes")
	for _, r := range g.l {
		if x, ok := r.Entry(7); !ok || !bytes.Equal(x.Data, most) || x.Kind != api.Plain || x.Term != r.Term() {
			t.Errorf("Entry: %d bytes, %v", len(x.Data), ok)
		}
	}
}

// P10.2: a message of entries never has more bytes than go over a link: of long ones fewer go at once.
func TestLongEntries(t *testing.T) {
	r := elected(t, 0, fresh(3), 1)
	long := make([]byte, api.MaxRecord/2)
	for range 3 {
		r.Propose(long)
	}
	r.Propose([]byte("x"))
	for _, c := range []struct {
		has  uint64
		want int
	}{{0, 2}, {1, 1}, {2, 1}, {3, 1}, {4, 1}} {
		ack(t, r, 1, c.has)
		l := sent(r)
		if len(l) != 1 || l[0].Index != c.has || len(l[0].Entries) != c.want {
			t.Errorf("behind %d: %d messages", c.has, len(l))
		}
	}
	m := fresh(3)
	m.H.Term, m.L = 1, []api.Entry{{Index: 1, Term: 1, Data: append(long, 0)}, {Index: 2, Term: 1}}
	r = elected(t, 0, m, 1)
	sent(r)
	step(t, r, api.Message{Kind: api.Ack, From: 1, To: 0, Term: 2})
	if l := sent(r); len(l) != 1 || len(l[0].Entries) != 1 {
		t.Errorf("one that is too long: %d messages", len(l))
	}
}

// P10.2: Change: the first of ErrLeader, ErrConflict, ErrArg; of one more and one less; nothing changes beside an error.
func TestChange(t *testing.T) {
	r := elected(t, 1, fresh(7), 0)
	refused := func(what string, voters uint64, want api.Errno) {
		t.Helper()
		sent(r)
		before := factsOf(r)
		if e := r.Change(voters); e != want {
			t.Errorf("%s: Change(%b) = %d, want %d", what, voters, e, want)
		}
		if f := factsOf(r); !reflect.DeepEqual(f, before) {
			t.Errorf("%s: %+v, before %+v", what, f, before)
		}
		goes(t, what, sent(r))
	}
	wrong := []uint64{0, 7, 1, 2, 4, 31, 8, 7 | 1<<7, 7 | 1<<63, 3 | 1<<7, top}
	for _, v := range append(wrong, 3) {
		refused("nothing of its own term is committed", v, api.ErrConflict)
	}
	ack(t, r, 0, 1)
	for _, v := range wrong {
		refused("not just one is another", v, api.ErrArg)
	}
	if e := r.Change(7 | 1<<6); e != api.OK || r.Voters() != 7|1<<6 || r.Last() != 2 {
		t.Fatalf("one more: %d, %b", e, r.Voters())
	}
	s, ok := r.Save()
	if !ok || s.Hard || !sameEntries(s.Entries, []api.Entry{{Index: 2, Term: 1, Kind: api.Voters, Data: logs.Bytes(7 | 1<<6)}}) {
		t.Errorf("saved %+v", s)
	}
	r.Stable()
	for _, v := range append(wrong, 3|1<<6) {
		refused("one isn't committed", v, api.ErrConflict)
	}
	ack(t, r, 0, 2)
	if r.Commit() != 1 {
		t.Error("two of four are most")
	}
	refused("one fewer than most has it", 7, api.ErrConflict)
	ack(t, r, 6, 2)
	if r.Commit() != 2 {
		t.Error("three of four aren't most")
	}
	refused("who votes now is another", 3, api.ErrArg)
	if e := r.Change(7); e != api.OK || r.Voters() != 7 {
		t.Errorf("one less: %d, %b", e, r.Voters())
	}
	sent(r)
	ack(t, r, 6, 3)
	if r.Commit() != 2 {
		t.Error("who doesn't vote any more counts")
	}
	ack(t, r, 2, 3)
	if r.Commit() != 3 {
		t.Error("two of three aren't most")
	}
	step(t, r, api.Message{Kind: api.Ask, From: 0, To: 1, Term: 2})
	sent(r)
	for _, v := range append(wrong, 3) {
		before := factsOf(r)
		if e := r.Change(v); e != api.ErrLeader || !reflect.DeepEqual(factsOf(r), before) {
			t.Errorf("who doesn't lead: %d", e)
		}
	}
}

// P10.2: a leader that doesn't vote any more doesn't count, and the last that votes doesn't go.
func TestChangeOfItself(t *testing.T) {
	r := elected(t, 0, fresh(3), 1)
	sent(r)
	ack(t, r, 1, 1)
	if e := r.Change(2); e != api.OK || r.Voters() != 2 {
		t.Fatalf("Change = %d", e)
	}
	sent(r)
	if r.Commit() != 1 {
		t.Error("committed by who doesn't vote")
	}
	ack(t, r, 1, 2)
	if r.Commit() != 2 || r.Change(0) != api.ErrArg {
		t.Errorf("commit %d", r.Commit())
	}
	one := elected(t, 0, fresh(1))
	sent(one)
	if one.Change(0) != api.ErrArg || one.Change(3) != api.OK || one.Commit() != 1 {
		t.Error("a group of one")
	}
	sent(one)
	if one.Commit() != 1 {
		t.Error("one of two is most")
	}
	ack(t, one, 1, 2)
	if one.Commit() != 2 {
		t.Error("two of two aren't most")
	}
}
