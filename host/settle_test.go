package host_test

import (
	"bytes"
	"testing"

	"dumbwaiter/api"
	"dumbwaiter/command"
	"dumbwaiter/disk"
	"dumbwaiter/host"
	"dumbwaiter/lane"
	"dumbwaiter/logs"
	"dumbwaiter/wal"
)

// P18.2, the chapter's example: a host alone: elect ticks, Sync: it leads.
func TestHostAlone(t *testing.T) {
	d := disk.New()
	h := made(t, planned(t, 1, much), 0, d)
	ticks(h, elect-1)
	h.Sync()
	if h.Leads() || h.Term() != 0 || d.Len() != 0 {
		t.Error("it leads a tick too soon")
	}
	h.Tick()
	if d.Len() == 0 || d.Sure() != 0 || h.At() != 0 || len(h.Seen()) != 0 {
		t.Error("what must be kept doesn't wait, or an entry is applied ahead of that")
	}
	if l := h.Sync(); len(l) != 0 || d.Sure() != d.Len() {
		t.Errorf("%v goes, %d of %d bytes are durable", l, d.Sure(), d.Len())
	}
	if !h.Leads() || !h.Ready() || h.Leader() != 0 || h.Term() != 1 || h.At() != 1 || h.Last() != 1 || h.Voters() != 1 {
		t.Errorf("%+v", toldBy(h, d))
	}
	if x, ok := h.Entry(1); !ok || text(x) != text(api.Entry{Index: 1, Term: 1}) {
		t.Errorf("%+v, %v", x, ok)
	}
	same(t, "Seen", h.Seen(), []api.Entry{{Index: 1, Term: 1}})
	same(t, "Seen again", h.Seen(), []api.Entry{})
	same(t, "Effects", h.Effects(), []api.Effect{})
}

// P18.2: a command of each kind: it is applied at the Sync, no sooner, and what it has done, and its entry, are told once.
func TestEachKind(t *testing.T) {
	h, _ := alone(t, much)
	reply := func(e api.Errno, epoch, index uint64) api.Reply {
		return api.Reply{E: e, Epoch: epoch, Index: index}
	}
	for n, x := range []struct {
		c    api.Command
		want []api.Effect
	}{
		{prepare(id(1, 1), 1, 5), []api.Effect{{Kind: lane.Voted, ID: id(1, 1)}}},
		{prepare(id(1, 2), 1, 5), []api.Effect{{Kind: lane.Voted, ID: id(1, 2), R: api.Reply{E: api.ErrConflict}}}},
		{closing(1), nil},
		{finish(id(1, 1), 1, 2, write(5, "v")), []api.Effect{{Kind: lane.Finished, ID: id(1, 1)}}},
		{closing(1), []api.Effect{{Kind: lane.Closed}}},
		{decide(id(1, 1), 2, 1), []api.Effect{{Kind: lane.Decided, ID: id(1, 1), R: reply(api.OK, 2, 7)}}},
		{decide(id(1, 1), 2, 1), nil},
		{decide(id(1, 2), 9, 1), []api.Effect{{Kind: lane.Decided, ID: id(1, 2), R: reply(api.ErrEpoch, 9, 9)}}},
		{forget(id(1, 1)), nil},
		{grant(7), nil},
		{give(id(1, 3), 2, write(5, "v")), []api.Effect{{Kind: lane.Decided, ID: id(1, 3), R: reply(api.OK, 2, 12)}}},
		{api.Command{}, nil},
		{api.Command{Kind: 99}, nil},
	} {
		at := uint64(n + 2)
		propose(t, h, x.c)
		if len(h.Effects()) != 0 || len(h.Seen()) != 0 || h.At() != at-1 {
			t.Errorf("%d: applied ahead of the Sync", at)
		}
		if _, ok := h.Entry(at); ok {
			t.Errorf("%d: committed ahead of the Sync", at)
		}
		h.Sync()
		same(t, "Effects", h.Effects(), x.want)
		same(t, "Seen", h.Seen(), []api.Entry{{Index: at, Term: 1, Data: command.Encode(x.c)}})
		if h.At() != at || len(h.Effects()) != 0 || len(h.Seen()) != 0 {
			t.Errorf("%d: At %d, or it is told again", at, h.At())
		}
	}
	if got, e := h.State().Get(5, 1); e != api.OK || string(got.Val) != "v" || h.State().Epoch() != 2 || len(h.State().Out(0)) != 1 {
		t.Errorf("%v, %d, epoch %d", got, e, h.State().Epoch())
	}
}

// P18.2: effects and entries of several calls are told in order, all at once; what has done Nothing isn't among them.
func TestEffectsGather(t *testing.T) {
	h, _ := alone(t, much)
	var want []api.Entry
	for n := range uint64(10) {
		x := prepare(id(1, n), 1, float64(n))
		if n%3 == 2 {
			x = forget(id(1, n))
		}
		propose(t, h, x)
		if n%4 == 3 {
			h.Sync()
		}
		want = append(want, api.Entry{Index: n + 2, Term: 1, Data: command.Encode(x)})
	}
	h.Sync()
	_, some := replay(want)
	if len(some) != 7 {
		t.Fatalf("%d effects", len(some))
	}
	same(t, "Effects", h.Effects(), some)
	same(t, "Seen", h.Seen(), want)
}

// leader: what a leader of a term tells the node 1 of three.
func leader(term, index, logTerm, commit uint64, l ...api.Entry) api.Message {
	return api.Message{Kind: api.Append, From: 0, To: 1, Term: term, Index: index, LogTerm: logTerm, Commit: commit, Entries: l}
}

// P18.2: an entry that is no command, or of another kind than Plain, counts as applied when its turn comes, and does nothing.
func TestNoCommand(t *testing.T) {
	d := disk.New()
	h := made(t, planned(t, 3, much), 1, d)
	long := command.Encode(prepare(id(1, 1), 1, make([]float64, api.MaxOps+1)...))
	l := []api.Entry{
		{Index: 1, Term: 1},
		{Index: 2, Term: 1, Data: []byte("no command")},
		{Index: 3, Term: 1, Kind: api.Voters, Data: logs.Bytes(3)},
		{Index: 4, Term: 1, Kind: 2, Data: command.Encode(closing(1))},
		{Index: 5, Term: 1, Data: append(command.Encode(closing(1)), 0)},
		{Index: 6, Term: 1, Data: long},
		{Index: 7, Term: 1, Kind: api.Voters, Data: command.Encode(prepare(id(1, 1), 1, 5))},
	}
	is(t, "Take", h.Take(leader(1, 0, 0, 5, l...)), api.OK)
	if h.At() != 5 || h.Last() != 7 {
		t.Errorf("At %d of %d", h.At(), h.Last())
	}
	same(t, "Seen up to what is committed", h.Seen(), l[:5])
	same(t, "Effects of none", h.Effects(), []api.Effect{})
	sameState(t, "by none", h.State(), lane.New(wide))
	is(t, "Take", h.Take(leader(1, 7, 1, 8, api.Entry{Index: 8, Term: 1, Data: command.Encode(closing(1))})), api.OK)
	same(t, "Effects behind", h.Effects(), []api.Effect{{Kind: lane.Closed}})
	same(t, "Seen behind", h.Seen(), append(l[5:], api.Entry{Index: 8, Term: 1, Data: command.Encode(closing(1))}))
	if h.At() != 8 || h.State().Epoch() != 2 {
		t.Errorf("At %d, epoch %d", h.At(), h.State().Epoch())
	}
}

// P18.2: behind each call what must be kept is: the records of the disk tell the term, the vote and the entries.
func TestKept(t *testing.T) {
	d := disk.New()
	h := made(t, planned(t, 3, much), 1, d)
	holds := func(what string, hard api.Hard, last uint64, sure bool) {
		t.Helper()
		m := image(d)
		if m.H != hard || m.S.Index+uint64(len(m.L)) != last || h.Last() != last || h.Term() != hard.Term || (d.Sure() == d.Len()) != sure {
			t.Errorf("%s: the disk has %+v, %d of %d bytes durable", what, m, d.Sure(), d.Len())
		}
	}
	holds("at first", api.Hard{Vote: -1}, 0, true)
	h.Take(api.Message{Kind: api.Ask, From: 2, To: 1, Term: 3})
	holds("a vote", api.Hard{Term: 3, Vote: 2}, 0, false)
	h.Sync()
	holds("a vote, durable", api.Hard{Term: 3, Vote: 2}, 0, true)
	h.Take(leader(4, 0, 0, 1, entries(1, 4, 4)...))
	holds("entries", api.Hard{Term: 4, Vote: -1}, 2, false)
	h.Take(leader(5, 1, 4, 1, entries(2, 5)...))
	holds("other entries", api.Hard{Term: 5, Vote: -1}, 2, false)
	same(t, "the entries kept", image(d).L, entries(1, 4, 5))
	h.Sync()
	ops := d.Ops()
	h.Draw(0)
	ticks(h, elect-1)
	h.Take(leader(5, 2, 5, 1))
	h.Effects()
	h.Send(0, api.Mail{})
	if d.Ops() != ops {
		t.Errorf("%d calls, though there is nothing to be kept", d.Ops()-ops)
	}
	h.Draw(0)
	ticks(h, 3*elect)
	h.Take(api.Message{Kind: api.PreOK, From: 0, To: 1, Term: 6, OK: true})
	holds("its own vote", api.Hard{Term: 6, Vote: 1}, 2, false)
	h.Take(api.Message{Kind: api.Vote, From: 0, To: 1, Term: 6, OK: true})
	holds("elected", api.Hard{Term: 6, Vote: 1}, 3, false)
	h.Sync()
	holds("leads", api.Hard{Term: 6, Vote: 1}, 3, true)
	is(t, "Propose", h.Propose(closing(1)), api.OK)
	holds("proposed", api.Hard{Term: 6, Vote: 1}, 4, false)
	h.Sync()
	h.Take(api.Message{Kind: api.Ack, From: 0, To: 1, Term: 6, OK: true, Index: 4})
	is(t, "Change", h.Change(3), api.OK)
	holds("a change", api.Hard{Term: 6, Vote: 1}, 5, false)
	h.Sync()
	h.Take(api.Message{Kind: api.Ack, From: 0, To: 1, Term: 6, OK: true, Index: 5})
	h.Close(9)
	holds("committed", api.Hard{Term: 6, Vote: 1}, 6, false)
	if h.State().Epoch() != 2 || h.At() != 5 {
		t.Errorf("epoch %d, At %d", h.State().Epoch(), h.At())
	}
}

// P18.2: At just below Long above the snapshot's index: none is made; at it one is, of what was applied, and from there on it counts anew.
func TestLong(t *testing.T) {
	h, d := alone(t, much)
	base := uint64(0)
	for h.At() < 4*host.Long+5 {
		n := h.At()
		propose(t, h, prepare(id(1, n), 1, float64(n)))
		if image(d).S.Index != base {
			t.Fatalf("a snapshot of what isn't applied, at %d", n)
		}
		h.Sync()
		if h.At()-base >= host.Long {
			base = h.At()
		}
		m := image(d)
		if m.S.Index != base || base%host.Long != 0 || h.Last() != h.At() || uint64(len(m.L)) != h.At()-base {
			t.Fatalf("At %d: a snapshot of %d, want %d, %d entries behind", h.At(), m.S.Index, base, len(m.L))
		}
		if _, ok := h.Entry(base); ok {
			t.Errorf("At %d: the entry %d isn't the snapshot's", h.At(), base)
		}
		if base != h.At() {
			continue
		}
		s, e := lane.Decode(m.S.Data)
		if e != api.OK || m.S.Term != 1 || m.S.Voters != 1 || m.H != (api.Hard{Term: 1}) || d.Sure() != d.Len() {
			t.Errorf("At %d: %d, %+v", h.At(), e, m.H)
		}
		sameState(t, "of the snapshot", s, h.State())
		if !h.Ready() || h.Leader() != 0 {
			t.Errorf("At %d: it doesn't lead any more", h.At())
		}
	}
	if l := h.Seen(); len(l) != 4*host.Long+4 || len(h.State().Holders()) != len(l) {
		t.Errorf("%d entries, %d hold something", len(l), len(h.State().Holders()))
	}
}

// P18.2: more than Long entries that are applied at once are in one snapshot, whose index is At.
func TestLongAtOnce(t *testing.T) {
	for _, n := range []int{host.Long - 2, host.Long - 1, host.Long, host.Long + 1, 3 * host.Long} {
		h, d := alone(t, much)
		for range n {
			propose(t, h, forget(id(1, 1)))
		}
		if image(d).S.Index != 0 || len(image(d).L) != n+1 {
			t.Errorf("%d: ahead of the Sync: %d", n, image(d).S.Index)
		}
		h.Sync()
		at, want := uint64(n+1), uint64(0)
		if at >= host.Long {
			want = at
		}
		if h.At() != at || image(d).S.Index != want || len(h.Seen()) != n {
			t.Errorf("%d: At %d, a snapshot of %d", n, h.At(), image(d).S.Index)
		}
	}
}

// P18.2: of entries that aren't committed yet none is in the snapshot; they stand behind it.
func TestSnapshotOfWhatIsApplied(t *testing.T) {
	c, a := begun(t, 3, much)
	for range 2*host.Long - 10 {
		propose(t, c.l[a], forget(id(1, 1)))
	}
	c.rounds(2 * beat)
	c.off = all(3) &^ (1 << a)
	last := c.l[a].Last()
	for range 20 {
		propose(t, c.l[a], forget(id(1, 1)))
	}
	c.rounds(1)
	c.off = 0
	at := c.l[a].At()
	for at == last {
		c.carry(1)
		ticks(c.l[a], 1)
		at = c.l[a].At()
	}
	m := image(c.d[a])
	if m.S.Index > at || m.S.Index+uint64(len(m.L)) != c.l[a].Last() || at-m.S.Index >= host.Long {
		t.Errorf("a snapshot of %d, At %d, %d entries behind, the last is %d", m.S.Index, at, len(m.L), c.l[a].Last())
	}
}

// P18.2: a disk with just half of Quota: no snapshot; with one byte more there is one, if something was applied behind the last.
func TestHalfOfQuota(t *testing.T) {
	steps := func(h *host.Host, n int) {
		for i := range n {
			h.Propose(forget(id(1, uint64(i))))
			h.Sync()
		}
	}
	for n := range 5 {
		h, d := alone(t, much)
		steps(h, n)
		size, at := d.Len(), h.At()
		for _, x := range []struct {
			quota int
			made  bool
		}{{2*size + 1, false}, {2 * size, false}, {2*size - 1, true}, {2*size - 2, true}} {
			h, d := alone(t, x.quota)
			steps(h, n)
			if m := image(d); h.At() != at || (m.S.Index != 0) != x.made || !x.made && d.Len() != size {
				t.Errorf("%d bytes of %d, At %d: a snapshot of %d", size, x.quota, at, m.S.Index)
			}
		}
	}
}

// P18.2: a disk with more than half of Quota, but nothing behind the snapshot, is left as it is; what waits doesn't count.
func TestNothingBehindTheSnapshot(t *testing.T) {
	h, d := alone(t, 20)
	if m := image(d); m.S.Index != 1 || d.Len() <= 20 {
		t.Fatalf("a snapshot of %d, %d bytes", m.S.Index, d.Len())
	}
	ops := d.Ops()
	ticks(h, 5)
	h.Close(0)
	h.Draw(1)
	h.Take(api.Message{})
	if d.Ops() != ops {
		t.Errorf("%d calls more", d.Ops()-ops)
	}
	propose(t, h, forget(id(1, 1)))
	if m := image(d); m.S.Index != 1 || len(m.L) != 1 || d.Ops() != ops+1 {
		t.Errorf("a snapshot of %d, %d entries behind, %d calls", m.S.Index, len(m.L), d.Ops()-ops)
	}
	h.Sync()
	if m := image(d); m.S.Index != 2 || len(m.L) != 0 || h.At() != 2 {
		t.Errorf("a snapshot of %d, %d entries behind", m.S.Index, len(m.L))
	}
}

// P18.2: while bytes wait the disk grows beyond half of Quota: the snapshot is made behind that call, whichever it is.
func TestDiskGrowsByWaiting(t *testing.T) {
	h, d := alone(t, much)
	done(t, h, forget(id(1, 1)))
	quota := 2 * d.Len()
	h, d = alone(t, quota)
	done(t, h, forget(id(1, 1)))
	if image(d).S.Index != 0 || h.At() != 2 {
		t.Fatalf("a snapshot of %d", image(d).S.Index)
	}
	propose(t, h, forget(id(1, 1)))
	if m := image(d); m.S.Index != 2 || len(m.L) != 1 || h.At() != 2 {
		t.Errorf("a snapshot of %d, %d entries behind, At %d", m.S.Index, len(m.L), h.At())
	}
}

// P18.2, P5: a state of more bytes than a record can have is no snapshot: the entries stay, so that all is found again.
func TestStateTooLongForARecord(t *testing.T) {
	h, d := alone(t, 1<<28)
	val := string(bytes.Repeat([]byte{'v'}, api.MaxValue))
	at := 0.0
	for n := range uint64(140) {
		x := id(1, n+1)
		propose(t, h, prepare(x, 1))
		var l []api.Write
		for range api.MaxOps {
			l = append(l, write(at, val))
			at++
		}
		propose(t, h, finish(x, 1, n, l...))
		h.Sync()
		m := image(d)
		if h.Last() != m.S.Index+uint64(len(m.L)) {
			t.Fatalf("%d: the disk has entries up to %d, of %d", n, m.S.Index+uint64(len(m.L)), h.Last())
		}
	}
	long := len(h.State().Encode())
	if long < api.MaxRecord || image(d).S.Index < host.Long || h.At()-image(d).S.Index < host.Long {
		t.Fatalf("%d bytes, a snapshot of %d, At %d", long, image(d).S.Index, h.At())
	}
	h.Sync()
	d.Crash(0)
	g := made(t, planned(t, 1, 1<<28), 0, d)
	leads(t, g)
	sameState(t, "found again", g.State(), h.State())
	if got := g.State().Now(at - 1); !got.Has {
		t.Error("the last write is lost")
	}
	if m := image(d); len(wal.Whole(wal.Image{S: m.S})) > api.MaxRecord+13 {
		t.Errorf("a record of %d bytes", len(m.S.Data))
	}
}
