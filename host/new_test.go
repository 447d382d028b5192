package host_test

import (
	"bytes"
	"math"
	"testing"

	"dumbwaiter/api"
	"dumbwaiter/command"
	"dumbwaiter/config"
	"dumbwaiter/disk"
	"dumbwaiter/garble"
	"dumbwaiter/host"
	"dumbwaiter/lane"
	"dumbwaiter/logs"
	"dumbwaiter/wal"
)

// entries: some entries from an index on, each a Forget, of these terms.
func entries(from uint64, terms ...uint64) []api.Entry {
	var l []api.Entry
	for n, term := range terms {
		l = append(l, api.Entry{Index: from + uint64(n), Term: term, Data: command.Encode(forget(id(1, 1)))})
	}
	return l
}

// someState: a state that isn't as at first.
func someState() *lane.State {
	s := lane.New(wide)
	s.Apply(1, prepare(id(1, 1), 1, 5))
	s.Apply(2, finish(id(1, 1), 1, 2, write(5, "five")))
	s.Apply(3, closing(1))
	s.Apply(4, decide(id(2, 1), 2, 3, api.Part{Shard: 1, Writes: []api.Write{write(-1, "x")}}))
	return s
}

// P18.1: each node and each lane of a plan has a host, and none but these; beside an error there is none, and the disk is as it was.
func TestWhichHosts(t *testing.T) {
	p := planned(t, 3, much)
	for node := -2; node < 10; node++ {
		for ln := -2; ln < p.Lanes()+3; ln++ {
			d := kept([]byte("no record"))
			h, e := host.New(p, node, ln, d)
			if node >= 0 && node < 3 && ln >= 0 && ln < p.Lanes() {
				if h == nil || e != api.OK || d.Len() != 0 {
					t.Errorf("New(%d, %d) = %v, %d, of %d bytes", node, ln, h, e, d.Len())
				}
				continue
			}
			if h != nil || e != api.ErrArg || d.Len() != 9 || d.Ops() != 1 {
				t.Errorf("New(%d, %d) = %v, %d, of %d bytes", node, ln, h, e, d.Len())
			}
		}
	}
	for _, n := range []int{math.MinInt, math.MaxInt} {
		_, a := host.New(p, n, 0, disk.New())
		_, b := host.New(p, 0, n, disk.New())
		is(t, "such a node", a, api.ErrArg)
		is(t, "such a lane", b, api.ErrArg)
	}
}

// P18.1: ErrArg of a nil plan, a nil disk, of one that no New has made.
func TestNewOfNil(t *testing.T) {
	p := planned(t, 1, much)
	for what, x := range map[string]struct {
		p *config.Plan
		d *disk.Disk
	}{"nil plan": {nil, disk.New()}, "nil disk": {p, nil}, "both": {}, "an empty plan": {&config.Plan{}, disk.New()}} {
		if h, e := host.New(x.p, 0, 0, x.d); h != nil || e != api.ErrArg {
			t.Errorf("%s: %v, %d", what, h, e)
		}
	}
}

// P18.1: of an empty disk: all nodes vote, the state is as at first, and nothing has happened.
func TestNewOfEmptyDisk(t *testing.T) {
	for n := 1; n <= api.MaxNodes; n++ {
		p := planned(t, n, much)
		for node := range n {
			d := disk.New()
			h := made(t, p, node, d)
			if h.Voters() != all(n) || h.Leads() || h.Ready() || h.Leader() != -1 || h.Term() != 0 || h.At() != 0 || h.Last() != 0 {
				t.Errorf("%d of %d: %+v", node, n, toldBy(h, d))
			}
			sameState(t, "at first", h.State(), lane.New(wide))
			if _, ok := h.Entry(0); ok || len(h.Effects()) != 0 || len(h.Seen()) != 0 || len(h.Sync()) != 0 {
				t.Errorf("%d of %d tells something", node, n)
			}
		}
	}
}

// P18.1: of what was kept: the term, the entries (none of which is known to be committed), who votes.
func TestNewOfRecords(t *testing.T) {
	p := planned(t, 3, much)
	vote := api.Entry{Index: 3, Term: 5, Kind: api.Voters, Data: logs.Bytes(3)}
	for what, x := range map[string]struct {
		m            wal.Image
		term, at     uint64
		last, voters uint64
	}{
		"a term":            {wal.Image{H: api.Hard{Term: 4, Vote: 1}}, 4, 0, 0, 7},
		"entries":           {wal.Image{H: api.Hard{Term: 5, Vote: -1}, L: entries(1, 2, 2, 5)}, 5, 0, 3, 7},
		"who votes":         {wal.Image{H: api.Hard{Term: 5, Vote: -1}, L: append(entries(1, 2, 2), vote)}, 5, 0, 3, 3},
		"who votes at all":  {wal.Image{H: api.Hard{Vote: -1}, S: api.Snap{Voters: 2}}, 0, 0, 0, 2},
		"a snapshot":        {wal.Image{H: api.Hard{Term: 9, Vote: 0}, S: api.Snap{Index: 4, Term: 2, Voters: 5, Data: someState().Encode()}}, 9, 4, 4, 5},
		"and what's behind": {wal.Image{H: api.Hard{Term: 9, Vote: 0}, S: api.Snap{Index: 4, Term: 2, Voters: 5, Data: someState().Encode()}, L: entries(5, 2, 3)}, 9, 4, 6, 5},
		"nobody votes":      {wal.Image{H: api.Hard{Term: 9, Vote: 0}, S: api.Snap{Index: 4, Term: 2, Data: someState().Encode()}}, 9, 4, 4, 0},
		"the last index":    {wal.Image{H: api.Hard{Term: 9, Vote: 0}, S: api.Snap{Index: math.MaxUint64, Term: 9, Voters: 1, Data: someState().Encode()}}, 9, math.MaxUint64, math.MaxUint64, 1},
		"nothing of this":   {wal.Image{H: api.Hard{Vote: -1}}, 0, 0, 0, 7},
	} {
		d := laid(x.m)
		h := made(t, p, 0, d)
		if h.Term() != x.term || h.At() != x.at || h.Last() != x.last || h.Voters() != x.voters || h.Leads() || h.Leader() != -1 {
			t.Errorf("%s: %+v", what, toldBy(h, d))
		}
		want := lane.New(wide)
		if x.at > 0 {
			want = someState()
		}
		sameState(t, what, h.State(), want)
		if _, ok := h.Entry(x.last); ok || len(h.Seen()) != 0 || len(h.Effects()) != 0 || !bytes.Equal(d.Read(), wal.Whole(x.m)) {
			t.Errorf("%s: something was applied, or the disk is another one", what)
		}
		ticks(h, 3*elect)
		h.Sync()
	}
}

// P18.1: what is behind the records is gone, durably, and what comes later is found again.
func TestNewOfHalfARecord(t *testing.T) {
	p := planned(t, 1, much)
	good := wal.Whole(wal.Image{H: api.Hard{Term: 4, Vote: 0}, L: entries(1, 3, 4)})
	for what, tail := range map[string][]byte{"a half": good[:14], "no record": []byte("no record"), "a byte": {1}} {
		d := kept(append(bytes.Clone(good), tail...))
		h := made(t, p, 0, d)
		if !bytes.Equal(d.Read(), good) || d.Sure() != len(good) {
			t.Errorf("%s: the disk has %x, want %x", what, d.Read(), good)
		}
		leads(t, h)
		propose(t, h, closing(1))
		h.Sync()
		d.Crash(0)
		g := made(t, p, 0, d)
		if g.Last() != 4 || g.Term() != 5 {
			t.Errorf("%s: %d entries, term %d", what, g.Last(), g.Term())
		}
	}
	d := kept([]byte("no record at all"))
	if h := made(t, p, 0, d); h.Voters() != 1 || h.Last() != 0 || d.Len() != 0 {
		t.Errorf("no record at all: %+v", toldBy(h, d))
	}
}

// P18.1: ErrForm: a snapshot that is no state's, or entries that no member keeps; the disk is as it was.
func TestNewOfWhatIsNone(t *testing.T) {
	p := planned(t, 3, much)
	refused := func(what string, m wal.Image) {
		t.Helper()
		for _, tail := range []string{"", "and half a record"} {
			d := kept(append(wal.Whole(m), tail...))
			before := d.Read()
			if h, e := host.New(p, 0, 2, d); h != nil || e != api.ErrForm || !bytes.Equal(d.Read(), before) || d.Ops() != 1 {
				t.Errorf("%s: %v, %d, of %d bytes %d are left", what, h, e, len(before), d.Len())
			}
		}
	}
	good := someState().Encode()
	refused("no state", wal.Image{S: api.Snap{Index: 5, Term: 1, Voters: 7, Data: []byte("no state")}})
	refused("no bytes", wal.Image{S: api.Snap{Index: 5, Term: 1, Voters: 7}})
	refused("no state at first", wal.Image{S: api.Snap{Voters: 7, Data: []byte("no state")}})
	refused("terms fall", wal.Image{L: entries(1, 2, 1)})
	refused("terms fall behind a snapshot", wal.Image{S: api.Snap{Index: 4, Term: 3, Voters: 7, Data: good}, L: entries(5, 2)})
	for q := range garble.Turned(good) {
		if _, e := lane.Decode(q); e != api.OK {
			refused("a byte is turned", wal.Image{S: api.Snap{Index: 4, Term: 3, Voters: 7, Data: q}})
		}
	}
	if _, e := host.New(nil, 0, 2, laid(wal.Image{L: entries(1, 2, 1)})); e != api.ErrArg {
		t.Errorf("ErrArg goes ahead of ErrForm: %d", e)
	}
}

// P18.1: the state is one of the plan's Wide, and a snapshot's goes on with its own.
func TestWide(t *testing.T) {
	h, d := alone(t, much)
	done(t, h, give(id(1, 1), 1, write(1, "longer")))
	same(t, "cut to Wide", string(h.State().Out(0)[0].W.Val), "long")
	for range host.Long {
		propose(t, h, forget(id(1, 1)))
		h.Sync()
	}
	g := made(t, planned(t, 1, much), 0, d)
	if g.At() < host.Long {
		t.Fatalf("At %d", g.At())
	}
	leads(t, g)
	done(t, g, give(id(1, 2), 1, write(1, "a")))
	same(t, "padded to Wide", g.State().Out(0)[1].W.Val, []byte{'a', 0, 0, 0})
}
