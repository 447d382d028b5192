package raft_test

import (
	"bytes"
	"fmt"
	"math/rand"
	"reflect"
	"testing"

	"dumbwaiter/api"
	"dumbwaiter/logs"
	"dumbwaiter/raft"
	"dumbwaiter/wal"
)

// P10.3: Save tells what is new since the last time, and that once.
func TestSave(t *testing.T) {
	r := made(t, 1, wal.Image{H: api.Hard{Term: 3, Vote: 0}, S: api.Snap{Voters: 7}, L: row(1, 1, 2, 3)})
	saves := func(what string, want wal.Save) {
		t.Helper()
		s, ok := r.Save()
		if ok != (want.Hard || len(want.Entries) > 0) || s.Hard != want.Hard || s.H != want.H || !sameEntries(s.Entries, want.Entries) {
			t.Errorf("%s: Save = %+v, %v, want %+v", what, s, ok, want)
		}
		if s, ok := r.Save(); ok || !reflect.DeepEqual(s, wal.Save{}) {
			t.Errorf("%s: once more Save = %+v", what, s)
		}
	}
	tells := func(term, i, logTerm uint64, l ...api.Entry) {
		t.Helper()
		step(t, r, api.Message{Kind: api.Append, From: 0, To: 1, Term: term, Index: i, LogTerm: logTerm, Entries: l})
	}
	saves("nothing", wal.Save{})
	tells(3, 3, 3)
	saves("a heartbeat", wal.Save{})
	tells(3, 3, 3, row(4, 3, 3)...)
	saves("entries", wal.Save{Entries: row(4, 3, 3)})
	tells(3, 3, 3, row(4, 3, 3, 3)...)
	saves("of entries the new ones", wal.Save{Entries: row(6, 3)})
	tells(4, 4, 3)
	saves("a term", wal.Save{Hard: true, H: api.Hard{Term: 4, Vote: -1}})
	tells(4, 3, 3, row(4, 3, 4)...)
	saves("others in their place", wal.Save{Entries: row(5, 4)})
	if r.Last() != 5 {
		t.Errorf("Last %d", r.Last())
	}
	tells(4, 5, 4, row(6, 4, 4, 4)...)
	tells(6, 6, 4, row(7, 6)...)
	tells(7, 2, 2, row(3, 7)...)
	saves("all from the first new one on", wal.Save{Hard: true, H: api.Hard{Term: 7, Vote: -1}, Entries: row(3, 7)})
	step(t, r, api.Message{Kind: api.Ask, From: 2, To: 1, Term: 8, Index: 9, LogTerm: 9})
	saves("a vote", wal.Save{Hard: true, H: api.Hard{Term: 8, Vote: 2}})
	step(t, r, api.Message{Kind: api.Ask, From: 2, To: 1, Term: 8, Index: 9, LogTerm: 9})
	saves("the same vote", wal.Save{})
}

// P10.3: what Save has told comes, laid as records, to the Image.
func TestSavesComeToTheImage(t *testing.T) {
	g := group(t, 3)
	kept := make([][]byte, 3)
	for n := range kept {
		kept[n] = wal.Whole(g.l[n].Image())
	}
	lot := rand.New(rand.NewSource(1))
	for range 300 {
		n := lot.Intn(3)
		r := g.l[n]
		switch lot.Intn(4) {
		case 0:
			r.Tick()
		case 1:
			r.Propose([]byte(fmt.Sprint(lot.Intn(100))))
		default:
			if s, ok := r.Save(); ok {
				kept[n] = append(kept[n], wal.Bytes(s)...)
			}
			for _, m := range r.Stable() {
				if lot.Intn(8) > 0 {
					g.l[m.To].Step(m)
				}
			}
		}
		if s, ok := r.Save(); ok {
			kept[n] = append(kept[n], wal.Bytes(s)...)
		}
		if m, size := wal.Scan(kept[n]); size != len(kept[n]) || !sameImage(m, r.Image()) {
			t.Fatalf("kept %+v, Image %+v", m, r.Image())
		}
	}
	if g.l[0].Last() == 0 {
		t.Error("nothing was proposed")
	}
}

// P10.3: no message goes ahead of what it hangs on being durable; each goes once, in order.
func TestStable(t *testing.T) {
	r := made(t, 1, fresh(7))
	tell := func(i uint64) api.Message {
		return api.Message{Kind: api.Append, From: 0, To: 1, Term: 1, Index: i, LogTerm: min(i, 1), Entries: row(i+1, 1)}
	}
	acked := func(i uint64) api.Message {
		return api.Message{Kind: api.Ack, From: 1, To: 0, Term: 1, OK: true, Index: i}
	}
	step(t, r, tell(0))
	goes(t, "ahead of Save", r.Stable())
	step(t, r, tell(1))
	r.Save()
	step(t, r, tell(2))
	goes(t, "what was saved", r.Stable(), acked(1), acked(2))
	goes(t, "once", r.Stable())
	r.Save()
	goes(t, "the rest", r.Stable(), acked(3))
	step(t, r, tell(2))
	goes(t, "what hangs on nothing new", r.Stable(), acked(3))

	r = made(t, 1, fresh(7))
	for n, m := range []api.Message{
		{Kind: api.Pre, From: 3, To: 1, Term: 1},
		{Kind: api.Pre, From: 3, To: 1, Term: 1},
		{Kind: api.Ask, From: 2, To: 1, Term: 1},
		{Kind: api.Ask, From: 0, To: 1, Term: 1},
		tell(0),
		{Kind: api.Pre, From: 2, To: 1, Term: 2, LogTerm: 1},
	} {
		step(t, r, m)
		if n == 1 {
			r.Save()
		}
	}
	r.Save()
	goes(t, "in order", r.Stable(),
		api.Message{Kind: api.PreOK, From: 1, To: 3, Term: 1, OK: true},
		api.Message{Kind: api.PreOK, From: 1, To: 3, Term: 1, OK: true},
		api.Message{Kind: api.Vote, From: 1, To: 2, Term: 1, OK: true},
		api.Message{Kind: api.Vote, From: 1, To: 0, Term: 1},
		acked(1),
		api.Message{Kind: api.PreOK, From: 1, To: 2, Term: 1})
}

// P10.3: Stable with nothing saved: nothing is durable by it, and nothing goes that isn't.
func TestStableWithNothingSaved(t *testing.T) {
	r := made(t, 0, fresh(1))
	ticks(r, elect)
	r.Stable()
	if r.Commit() != 0 || r.Ready() {
		t.Error("committed, and not kept")
	}
	r.Save()
	r.Propose([]byte("x"))
	r.Stable()
	if r.Commit() != 1 {
		t.Errorf("commit %d, saved 1", r.Commit())
	}
	r.Stable()
	if r.Commit() != 1 {
		t.Errorf("commit %d, saved 1", r.Commit())
	}
	sent(r)
	if r.Commit() != 2 {
		t.Errorf("commit %d, saved 2", r.Commit())
	}
	r = made(t, 0, fresh(7))
	ticks(r, elect)
	if l := r.Stable(); len(l) != 2 || l[0].Kind != api.Pre {
		t.Errorf("what hangs on nothing: %+v", l)
	}
	step(t, r, api.Message{Kind: api.PreOK, From: 1, To: 0, Term: 1, OK: true})
	goes(t, "a vote that isn't saved", r.Stable())
	if l := sent(r); len(l) != 2 || l[0].Kind != api.Ask {
		t.Errorf("a vote that is: %+v", l)
	}
}

// P10.3: of Appends to one node the last alone goes.
func TestLastAppendAlone(t *testing.T) {
	r := elected(t, 0, fresh(7), 1)
	r.Propose([]byte("a"))
	step(t, r, api.Message{Kind: api.Pre, From: 1, To: 0, Term: 9})
	r.Propose([]byte("b"))
	r.Save()
	log := r.Image().L
	told := func(n int) api.Message {
		return api.Message{Kind: api.Append, From: 0, To: n, Term: 1, Entries: log}
	}
	ticks(r, beat)
	step(t, r, api.Message{Kind: api.Pre, From: 2, To: 0, Term: 9})
	goes(t, "ahead of Save, and behind", r.Stable(),
		api.Message{Kind: api.PreOK, From: 0, To: 1, Term: 1}, told(1), told(2), api.Message{Kind: api.PreOK, From: 0, To: 2, Term: 1})
	goes(t, "nothing else", sent(r))
	ticks(r, beat)
	r.Save()
	r.Propose([]byte("c"))
	goes(t, "the last that may go", r.Stable(), told(1), told(2))
	log = r.Image().L
	goes(t, "the last", sent(r), told(1), told(2))

	far := elected(t, 0, wal.Image{H: api.Hard{Vote: -1}, S: api.Snap{Index: 5, Voters: 3, Data: []byte("state")}}, 1)
	sent(far)
	no := api.Message{Kind: api.Ack, From: 1, To: 0, Term: 1}
	step(t, far, no)
	step(t, far, no)
	ticks(far, 3*beat)
	goes(t, "one snapshot, not the same again", sent(far), api.Message{Kind: api.Install, From: 0, To: 1, Term: 1, S: far.Image().S})
	goes(t, "nothing else", sent(far))
}

// P10.3: what a follower makes of entries: those that fit stand, others don't; it says up to where, or a place to try.
func TestAppends(t *testing.T) {
	m := wal.Image{H: api.Hard{Term: 5, Vote: -1}, S: api.Snap{Index: 10, Term: 2, Voters: 7, Data: []byte("state")}, L: row(11, 2, 3, 3, 3, 5)}
	log := m.L
	for _, c := range []struct {
		what       string
		i, logTerm uint64
		commit     uint64
		l          []api.Entry
		ok         bool
		index      uint64 // of the answer
		committed  uint64
		want       []api.Entry
	}{
		{"a heartbeat", 15, 5, 0, nil, true, 15, 10, log},
		{"a heartbeat that commits", 15, 5, 13, nil, true, 15, 13, log},
		{"one that commits more than it has", 15, 5, 99, nil, true, 15, 15, log},
		{"one that commits more than it tells of", 12, 3, 99, nil, true, 12, 12, log},
		{"one that commits less", 15, 5, 3, nil, true, 15, 10, log},
		{"behind the snapshot", 10, 2, 0, nil, true, 10, 10, log},
		{"more", 15, 5, 17, row(16, 5, 5), true, 17, 17, append(row(11, 2, 3, 3, 3, 5), row(16, 5, 5)...)},
		{"those that it has", 11, 2, 0, row(12, 3, 3), true, 13, 10, log},
		{"those that it has, and more", 14, 3, 16, row(15, 5, 5), true, 16, 16, append(row(11, 2, 3, 3, 3, 5), row(16, 5)...)},
		{"others in their place", 13, 3, 14, row(14, 4), true, 14, 14, append(row(11, 2, 3, 3), row(14, 4)...)},
		{"others in the place of all", 10, 2, 0, row(11, 4, 5), true, 12, 10, row(11, 4, 5)},
		{"ahead of the snapshot", 8, 1, 0, row(9, 1, 2), true, 10, 10, log},
		{"ahead of it, and others behind", 8, 1, 12, row(9, 1, 2, 2, 4), true, 12, 12, append(row(11, 2), row(12, 4)...)},
		{"far ahead of it, and no entries", 1, 1, 99, nil, true, 1, 10, log},
		{"a gap", 16, 5, 99, row(17, 5), false, 15, 10, log},
		{"a wide gap", top, 5, top, row(17, 5), false, 15, 10, log},
		{"another term at the last", 15, 4, 99, row(16, 5), false, 14, 10, log},
		{"another term, of which there are more", 14, 4, 99, row(15, 5), false, 11, 10, log},
		{"another term, up to what is committed", 11, 1, 99, row(12, 5), false, 10, 10, log},
		{"entries that don't stand behind", 15, 5, 99, row(17, 5), true, 15, 15, log},
		{"entries that stand ahead", 15, 5, 99, row(15, 5), true, 15, 15, log},
		{"entries with a gap", 15, 5, 99, append(row(16, 5), row(18, 5)...), true, 16, 16, append(row(11, 2, 3, 3, 3, 5), row(16, 5)...)},
		{"another one than is committed", 9, 1, 99, row(10, 9, 9), true, 9, 10, log},
	} {
		r := made(t, 1, m)
		step(t, r, api.Message{Kind: api.Append, From: 2, To: 1, Term: 5, Index: c.i, LogTerm: c.logTerm, Commit: c.commit, Entries: c.l})
		if r.Leader() != 2 || r.Commit() != c.committed || !sameEntries(r.Image().L, c.want) || r.Base() != 10 {
			t.Errorf("%s: commit %d, want %d; has %+v, want %+v", c.what, r.Commit(), c.committed, r.Image().L, c.want)
		}
		if _, ok := r.Restore(); ok {
			t.Errorf("%s: a snapshot", c.what)
		}
		goes(t, c.what, sent(r), api.Message{Kind: api.Ack, From: 1, To: 2, Term: 5, OK: c.ok, Index: c.index})
	}
}

// P10.3: the place to try is never ahead of what is committed: that fits.
func TestPlaceBehindCommitted(t *testing.T) {
	r := made(t, 1, fresh(7))
	step(t, r, api.Message{Kind: api.Append, From: 0, To: 1, Term: 3, Commit: 2, Entries: row(1, 3, 3, 3, 3)})
	sent(r)
	step(t, r, api.Message{Kind: api.Append, From: 2, To: 1, Term: 5, Index: 4, LogTerm: 4, Commit: 2})
	goes(t, "another term", sent(r), api.Message{Kind: api.Ack, From: 1, To: 2, Term: 5, Index: 2})
}

// P10.4: what is committed isn't unmade, whatever comes.
func TestCommittedStays(t *testing.T) {
	r := made(t, 1, fresh(7))
	step(t, r, api.Message{Kind: api.Append, From: 0, To: 1, Term: 1, Commit: 3, Entries: row(1, 1, 1, 1, 1)})
	for _, m := range []api.Message{
		{Kind: api.Append, From: 0, To: 1, Term: 2, Entries: row(1, 2)},
		{Kind: api.Append, From: 0, To: 1, Term: 2, Index: 2, LogTerm: 1, Entries: row(3, 2), Commit: 3},
		{Kind: api.Append, From: 0, To: 1, Term: 2, Index: 1, LogTerm: 1, Commit: 1},
		{Kind: api.Append, From: 0, To: 1, Term: 2, Index: 2, LogTerm: 2, Commit: 9},
		{Kind: api.Install, From: 0, To: 1, Term: 2, S: api.Snap{Index: 2, Term: 2, Voters: 7}},
		{Kind: api.Install, From: 0, To: 1, Term: 2, S: api.Snap{Index: 3, Term: 2, Voters: 7}},
		{Kind: api.Install, From: 0, To: 1, Term: 2, S: api.Snap{Voters: 1}},
	} {
		step(t, r, m)
		if r.Commit() != 3 || r.Base() != 0 || !sameEntries(r.Image().L[:3], row(1, 1, 1, 1)) || r.Voters() != 7 {
			t.Errorf("%+v: %+v", m, factsOf(r))
		}
	}
}

// P10.1: who votes, by the last entry that tells it, also when that is gone again, or in a snapshot.
func TestVoters(t *testing.T) {
	r := made(t, 1, fresh(7))
	vote := func(i, term, voters uint64) api.Entry {
		return api.Entry{Index: i, Term: term, Kind: api.Voters, Data: logs.Bytes(voters)}
	}
	tells := func(term, i, logTerm, commit uint64, l ...api.Entry) {
		step(t, r, api.Message{Kind: api.Append, From: 0, To: 1, Term: term, Index: i, LogTerm: logTerm, Commit: commit, Entries: l})
	}
	is := func(what string, want uint64) {
		t.Helper()
		if r.Voters() != want {
			t.Errorf("%s: %b, want %b", what, r.Voters(), want)
		}
	}
	tells(1, 0, 0, 1, entry(1, 1, ""), vote(2, 1, 15), entry(3, 1, "x"))
	is("not committed", 15)
	tells(1, 3, 1, 3, vote(4, 1, 31))
	is("the last one", 31)
	tells(2, 3, 1, 3, entry(4, 2, ""))
	is("the last one is gone", 15)
	if r.Compact(3, nil) != api.OK || r.Image().S.Voters != 15 {
		t.Errorf("%+v", r.Image().S)
	}
	is("by the snapshot", 15)
	tells(2, 4, 2, 6, vote(5, 2, 31), entry(6, 2, ""), vote(7, 2, 63))
	is("behind it", 63)
	if r.Compact(4, nil) != api.OK || r.Image().S.Voters != 15 {
		t.Errorf("up to there: %+v", r.Image().S)
	}
	if r.Compact(6, nil) != api.OK || r.Image().S.Voters != 31 {
		t.Errorf("up to there: %+v", r.Image().S)
	}
	is("behind it", 63)
	step(t, r, api.Message{Kind: api.Install, From: 0, To: 1, Term: 2, S: api.Snap{Index: 9, Term: 2, Voters: 3}})
	is("by one that has come", 3)
}

// P10.3: a snapshot that comes: in the place of all; or, where its last entry is there, the entries stay, and are committed up to it.
func TestInstall(t *testing.T) {
	m := wal.Image{H: api.Hard{Term: 5, Vote: -1}, S: api.Snap{Index: 10, Term: 2, Voters: 7, Data: []byte("old")}, L: row(11, 2, 3, 3)}
	for _, c := range []struct {
		what      string
		i, term   uint64
		comes     bool
		committed uint64
	}{
		{"behind all", 20, 4, true, 20},
		{"just behind the last", 14, 3, true, 14},
		{"the last, of another term", 13, 4, true, 13},
		{"one within, of another term", 12, 4, true, 12},
		{"the first, of another term", 11, 5, true, 11},
		{"the last, with its term", 13, 3, false, 13},
		{"one within, with its term", 12, 3, false, 12},
		{"the first, with its term", 11, 2, false, 11},
		{"its own", 10, 2, false, 10},
		{"its own, of another term", 10, 3, false, 10},
		{"an old one", 9, 2, false, 10},
		{"none", 0, 0, false, 10},
	} {
		r := made(t, 1, m)
		s := api.Snap{Index: c.i, Term: c.term, Voters: 15, Data: []byte("new")}
		step(t, r, api.Message{Kind: api.Install, From: 0, To: 1, Term: 5, S: s})
		want := m
		if c.comes {
			want = wal.Image{H: m.H, S: s}
		}
		if r.Commit() != c.committed || !sameImage(r.Image(), want) || r.Base() != want.S.Index || r.Voters() != want.S.Voters || r.Leader() != 0 {
			t.Errorf("%s: commit %d, %+v, want %+v", c.what, r.Commit(), r.Image(), want)
		}
		if save, ok := r.Save(); ok {
			t.Errorf("%s: Save = %+v", c.what, save)
		}
		goes(t, c.what, r.Stable(), api.Message{Kind: api.Ack, From: 1, To: 0, Term: 5, OK: true, Index: c.committed})
		got, ok := r.Restore()
		if ok != c.comes || ok && !reflect.DeepEqual(got, s) || !ok && !reflect.DeepEqual(got, api.Snap{}) {
			t.Errorf("%s: Restore = %+v, %v", c.what, got, ok)
		}
		if got, ok := r.Restore(); ok || !reflect.DeepEqual(got, api.Snap{}) {
			t.Errorf("%s: Restore once more = %+v", c.what, got)
		}
		if i := r.Last() + 1; c.comes {
			step(t, r, api.Message{Kind: api.Append, From: 0, To: 1, Term: 5, Index: c.i, LogTerm: c.term, Commit: i, Entries: row(i, 5)})
			if save, ok := r.Save(); !ok || !sameEntries(save.Entries, row(i, 5)) || r.Commit() != i {
				t.Errorf("%s: behind it %+v, commit %d", c.what, save, r.Commit())
			}
		}
	}
	r := made(t, 1, m)
	for i := uint64(20); i < 23; i++ {
		step(t, r, api.Message{Kind: api.Install, From: 0, To: 1, Term: 5, S: api.Snap{Index: i, Term: 5, Voters: 7}})
	}
	if s, ok := r.Restore(); !ok || s.Index != 22 {
		t.Errorf("of several the last: %+v", s)
	}
}

// P10.3: what a snapshot took away that wasn't saved isn't saved any more.
func TestInstallAheadOfSave(t *testing.T) {
	r := made(t, 1, fresh(7))
	step(t, r, api.Message{Kind: api.Append, From: 0, To: 1, Term: 1, Entries: row(1, 1, 1)})
	step(t, r, api.Message{Kind: api.Install, From: 0, To: 1, Term: 1, S: api.Snap{Index: 5, Term: 1, Voters: 7}})
	if s, ok := r.Save(); !ok || !s.Hard || len(s.Entries) > 0 {
		t.Errorf("Save = %+v", s)
	}
	if !sameImage(r.Image(), wal.Image{H: api.Hard{Term: 1, Vote: -1}, S: api.Snap{Index: 5, Term: 1, Voters: 7}}) {
		t.Errorf("Image = %+v", r.Image())
	}
	for _, i := range []uint64{1, 2, 3, 9} { // and what stands behind it is, whatever was ahead
		r := made(t, 1, wal.Image{H: api.Hard{Term: 2, Vote: -1}, S: api.Snap{Voters: 7}, L: row(1, 1, 1, 1)})
		step(t, r, api.Message{Kind: api.Install, From: 0, To: 1, Term: 2, S: api.Snap{Index: i, Term: 2, Voters: 7}})
		step(t, r, api.Message{Kind: api.Append, From: 0, To: 1, Term: 2, Index: i, LogTerm: 2, Entries: row(i+1, 2, 2)})
		if s, ok := r.Save(); !ok || s.Hard || !sameEntries(s.Entries, row(i+1, 2, 2)) {
			t.Errorf("behind %d: Save = %+v", i, s)
		}
		if l := r.Stable(); len(l) != 2 {
			t.Errorf("behind %d: %+v", i, l)
		}
	}
}

// P10.3: Image tells all, saved or not.
func TestImage(t *testing.T) {
	r := made(t, 1, fresh(7))
	step(t, r, api.Message{Kind: api.Append, From: 0, To: 1, Term: 4, Entries: row(1, 3, 4)})
	step(t, r, api.Message{Kind: api.Ask, From: 2, To: 1, Term: 5, Index: 9, LogTerm: 9})
	want := wal.Image{H: api.Hard{Term: 5, Vote: 2}, S: api.Snap{Voters: 7}, L: row(1, 3, 4)}
	for range 2 {
		if !sameImage(r.Image(), want) {
			t.Errorf("Image = %+v, want %+v", r.Image(), want)
		}
	}
	if s, ok := r.Save(); !ok || !s.Hard || s.H != want.H || !sameEntries(s.Entries, want.L) {
		t.Errorf("Save = %+v", s)
	}
	if !sameImage(r.Image(), want) {
		t.Errorf("Image = %+v, want %+v", r.Image(), want)
	}
}

// P10.3: Compact: what is committed, above Base; and what it leaves.
func TestCompact(t *testing.T) {
	m := wal.Image{H: api.Hard{Term: 5, Vote: 0}, S: api.Snap{Index: 10, Term: 2, Voters: 7, Data: []byte("old")}, L: row(11, 2, 3, 3, 5, 5)}
	r := made(t, 1, m)
	refused := func(i uint64) {
		t.Helper()
		before := factsOf(r)
		if e := r.Compact(i, []byte("wrong")); e != api.ErrArg {
			t.Errorf("Compact(%d) = %d", i, e)
		}
		if f := factsOf(r); !reflect.DeepEqual(f, before) {
			t.Errorf("Compact(%d): %+v, before %+v", i, f, before)
		}
	}
	for _, i := range []uint64{0, 1, 9, 10, 11, 15, 16, top} {
		refused(i)
	}
	step(t, r, api.Message{Kind: api.Append, From: 0, To: 1, Term: 5, Index: 15, LogTerm: 5, Commit: 14})
	for _, i := range []uint64{0, 9, 10, 15, 16, top} {
		refused(i)
	}
	if e := r.Compact(12, []byte("at 12")); e != api.OK {
		t.Fatalf("Compact = %d", e)
	}
	want := wal.Image{H: m.H, S: api.Snap{Index: 12, Term: 3, Voters: 7, Data: []byte("at 12")}, L: m.L[2:]}
	if !sameImage(r.Image(), want) || r.Base() != 12 || r.Commit() != 14 || r.Last() != 15 {
		t.Errorf("%+v", r.Image())
	}
	if _, ok := r.Entry(12); ok {
		t.Error("Entry(12) is there")
	}
	if x, ok := r.Entry(13); !ok || x.Term != 3 {
		t.Errorf("Entry(13) = %+v", x)
	}
	if s, ok := r.Save(); ok {
		t.Errorf("Save = %+v", s)
	}
	if s, ok := r.Restore(); ok {
		t.Errorf("Restore = %+v", s)
	}
	for _, i := range []uint64{0, 10, 11, 12, 15, top} {
		refused(i)
	}
	if e := r.Compact(14, nil); e != api.OK || r.Base() != 14 || len(r.Image().L) != 1 || len(r.Image().S.Data) != 0 {
		t.Errorf("Compact = %d, %+v", e, r.Image())
	}
	q := made(t, 1, fresh(7)) // what is committed and not saved yet
	step(t, q, api.Message{Kind: api.Append, From: 0, To: 1, Term: 1, Commit: 2, Entries: row(1, 1, 1, 1)})
	if e := q.Compact(2, []byte("x")); e != api.OK {
		t.Fatal(e)
	}
	if s, ok := q.Save(); !ok || !sameEntries(s.Entries, row(3, 1)) {
		t.Errorf("Save = %+v", s)
	}
}

// P10.3: Step's errors: nothing happens.
func TestStepErrors(t *testing.T) {
	members := func() []*raft.Raft {
		m := wal.Image{H: api.Hard{Term: 2, Vote: -1}, S: api.Snap{Voters: 7}, L: row(1, 1, 2)}
		l := []*raft.Raft{made(t, 0, m), made(t, 0, m), elected(t, 0, m, 1)}
		ticks(l[1], elect)
		for _, r := range l {
			sent(r)
		}
		return l
	}
	for _, c := range []struct {
		what string
		make func(m *api.Message)
	}{
		{"not for it", func(m *api.Message) { m.To = 1 }},
		{"for nobody", func(m *api.Message) { m.To = -1 }},
		{"for none", func(m *api.Message) { m.To = 7 }},
		{"from it", func(m *api.Message) { m.From = 0 }},
		{"no node's", func(m *api.Message) { m.From = -1 }},
		{"no node's, above", func(m *api.Message) { m.From = 7 }},
		{"far below", func(m *api.Message) { m.From = -1 << 62 }},
		{"far above", func(m *api.Message) { m.From = 1 << 62 }},
		{"no kind", func(m *api.Message) { m.Kind = 0 }},
		{"no kind, above", func(m *api.Message) { m.Kind = api.Install + 1 }},
		{"no kind, far above", func(m *api.Message) { m.Kind = 255 }},
		{"the term 0", func(m *api.Message) { m.Term = 0 }},
	} {
		for kind := api.Pre; kind <= api.Install; kind++ {
			for n, r := range members() {
				before := factsOf(r)
				m := api.Message{Kind: kind, From: 1, To: 0, Term: 9, Index: 2, LogTerm: 2, OK: true, Commit: 2, Entries: row(3, 9), S: api.Snap{Index: 9, Term: 9, Voters: 3}}
				c.make(&m)
				if e := r.Step(m); e != api.ErrArg {
					t.Errorf("%s, kind %d, member %d: %d", c.what, m.Kind, n, e)
				}
				if f := factsOf(r); !reflect.DeepEqual(f, before) {
					t.Errorf("%s, kind %d, member %d: %+v, before %+v", c.what, m.Kind, n, f, before)
				}
				if s, ok := r.Save(); ok {
					t.Errorf("%s: Save = %+v", c.what, s)
				}
				goes(t, c.what, r.Stable())
			}
		}
	}
}

// LANGUAGE 7: nothing that is handed in, or answered, is shared with what is kept.
func TestMemory(t *testing.T) {
	spoil := func(p []byte) {
		for n := range p {
			p[n] = '!'
		}
	}
	m := wal.Image{H: api.Hard{Term: 1, Vote: -1}, S: api.Snap{Index: 3, Term: 1, Voters: 1, Data: []byte("state")}, L: row(4, 1, 1)}
	r := made(t, 0, m)
	spoil(m.S.Data)
	spoil(m.L[0].Data)
	m.L[1] = api.Entry{}
	ticks(r, elect)
	sent(r)
	p := []byte("proposed")
	r.Propose(p)
	spoil(p)
	s, _ := r.Save()
	spoil(s.Entries[0].Data)
	r.Stable()
	x, _ := r.Entry(7)
	spoil(x.Data)
	image := r.Image()
	spoil(image.S.Data)
	for n := range image.L {
		spoil(image.L[n].Data)
		image.L[n].Term = 99
	}
	x, _ = r.Entry(7)
	if string(x.Data) != "proposed" || string(r.Image().S.Data) != "state" || !sameEntries(r.Image().L[:2], row(4, 1, 1)) {
		t.Errorf("%+v", r.Image())
	}
	p = []byte("compacted")
	r.Compact(7, p)
	spoil(p)
	if string(r.Image().S.Data) != "compacted" {
		t.Errorf("%+v", r.Image())
	}

	f := made(t, 1, fresh(7))
	in := api.Message{Kind: api.Append, From: 0, To: 1, Term: 1, Commit: 1, Entries: row(1, 1, 1)}
	step(t, f, in)
	spoil(in.Entries[0].Data)
	in.Entries[1] = api.Entry{}
	if !sameEntries(f.Image().L, row(1, 1, 1)) {
		t.Errorf("%+v", f.Image())
	}
	in = api.Message{Kind: api.Install, From: 0, To: 1, Term: 1, S: api.Snap{Index: 9, Term: 1, Voters: 7, Data: []byte("come")}}
	step(t, f, in)
	spoil(in.S.Data)
	got, _ := f.Restore()
	if string(got.Data) != "come" {
		t.Errorf("%s", got.Data)
	}
	spoil(got.Data)
	if string(f.Image().S.Data) != "come" {
		t.Errorf("%+v", f.Image())
	}

	a := elected(t, 0, wal.Image{H: api.Hard{Vote: -1}, S: api.Snap{Index: 4, Voters: all(4), Data: []byte("state")}}, 1, 2)
	a.Propose([]byte("x"))
	step(t, a, api.Message{Kind: api.Ack, From: 1, To: 0, Term: 1})
	step(t, a, api.Message{Kind: api.Ack, From: 2, To: 0, Term: 1})
	for _, m := range sent(a) {
		if len(m.Entries) > 1 && string(m.Entries[1].Data) != "x" || m.Kind == api.Install && string(m.S.Data) != "state" {
			t.Errorf("%+v", m)
		}
		spoil(m.S.Data)
		for n := range m.Entries {
			spoil(m.Entries[n].Data)
		}
	}
	if string(a.Image().S.Data) != "state" || string(a.Image().L[1].Data) != "x" {
		t.Errorf("%+v", a.Image())
	}
}

// P1: the ends of what numbers there are: the greatest term, the greatest index.
func TestGreatest(t *testing.T) {
	r := made(t, 0, wal.Image{H: api.Hard{Term: top, Vote: -1}, S: api.Snap{Voters: 1}})
	ticks(r, 5*elect)
	if r.Leads() || r.Term() != top {
		t.Errorf("behind the greatest term: %d", r.Term())
	}
	r = made(t, 0, wal.Image{H: api.Hard{Term: 1, Vote: -1}, S: api.Snap{Index: top - 1, Term: 1, Voters: 1}})
	ticks(r, elect)
	sent(r)
	if !r.Leads() || r.Last() != top || r.Commit() != top {
		t.Errorf("last %d, commit %d", r.Last(), r.Commit())
	}
	before := factsOf(r)
	if i, e := r.Propose(nil); i != 0 || e == api.OK {
		t.Errorf("behind the greatest index: %d, %d", i, e)
	}
	if e := r.Change(3); e == api.OK {
		t.Error("a change behind the greatest index")
	}
	if f := factsOf(r); !reflect.DeepEqual(f, before) {
		t.Errorf("%+v, before %+v", f, before)
	}
	r = elected(t, 0, wal.Image{H: api.Hard{Term: 1, Vote: -1}, S: api.Snap{Index: top, Term: 1, Voters: 7}}, 1)
	ticks(r, beat)
	for _, i := range []uint64{0, 1, top - 1, top} {
		ack(t, r, 1, i)
		step(t, r, api.Message{Kind: api.Ack, From: 2, To: 0, Term: 2, Index: i})
		ticks(r, beat)
		sent(r)
	}
	step(t, r, api.Message{Kind: api.Append, From: 2, To: 0, Term: 3, Index: top, LogTerm: 1, Commit: top, Entries: row(0, 3)})
	if r.Last() != top {
		t.Errorf("last %d", r.Last())
	}
}

// P1, P10.4: messages of any numbers: no call panics, terms and what is committed never fall, and entries that are committed stay.
func TestAnyMessages(t *testing.T) {
	lot := rand.New(rand.NewSource(7))
	number := func() uint64 {
		if lot.Intn(60) == 0 {
			return []uint64{top, top - 1, 1 << 63, 1 << 32}[lot.Intn(4)]
		}
		return uint64(lot.Intn(12))
	}
	for range 300 {
		r := made(t, 1, wal.Image{H: api.Hard{Term: 2, Vote: -1}, S: api.Snap{Index: 3, Term: 1, Voters: 7}, L: row(4, 1, 2, 2)})
		for range 80 {
			before := factsOf(r)
			m := api.Message{Kind: byte(lot.Intn(9)), From: lot.Intn(9) - 1, To: lot.Intn(3), Term: number(), Index: number(), LogTerm: number(), Commit: number(), OK: lot.Intn(2) == 0}
			for range lot.Intn(4) {
				m.Entries = append(m.Entries, api.Entry{Index: m.Index + 1 + uint64(lot.Intn(3)), Term: number(), Kind: byte(lot.Intn(3)), Data: []byte{byte(lot.Intn(256))}})
			}
			m.S = api.Snap{Index: number() % 1000, Term: number(), Voters: number()}
			r.Step(m)
			switch lot.Intn(8) {
			case 0:
				ticks(r, lot.Intn(9))
			case 1:
				r.Propose([]byte("x"))
			case 2:
				r.Change(number())
			case 3:
				r.Compact(number(), nil)
			case 4:
				r.Restore()
			case 5:
				sent(r)
			}
			if r.Term() < before.Term || r.Commit() < before.Commit || r.Base() < before.Base || r.Last() < r.Commit() || r.Commit() < r.Base() {
				t.Fatalf("%+v: %+v, before %+v", m, factsOf(r), before)
			}
			for _, x := range before.Committed {
				if y, ok := r.Entry(x.Index); ok && !bytes.Equal(x.Data, y.Data) || ok && x.Term != y.Term || !ok && x.Index > r.Base() {
					t.Fatalf("%+v: %+v is %+v", m, x, y)
				}
			}
		}
	}
}
