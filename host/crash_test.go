package host_test

import (
	"bytes"
	"testing"

	"dumbwaiter/api"
	"dumbwaiter/command"
	"dumbwaiter/disk"
	"dumbwaiter/host"
	"dumbwaiter/wal"
)

// again: a disk with the same bytes, of which as many wait.
func again(d *disk.Disk) *disk.Disk {
	p := d.Read()
	c := kept(p[:d.Sure()])
	c.Append(p[d.Sure():])
	return c
}

// P18.1, P5: New behind a crash that kept any part of what waits: all that was durable is there, and of what waited whole entries from the first on; a host alone comes to the state of these.
func TestCrashAnywhere(t *testing.T) {
	for _, quota := range []int{much, 500} {
		h, d := alone(t, quota)
		var seen []api.Entry
		for n := range uint64(5) {
			propose(t, h, decide(id(1, n+1), 1, 1))
			h.Sync()
		}
		sure := h.Last()
		seen = append([]api.Entry{{Index: 1, Term: 1}}, h.Seen()...)
		for n := range uint64(5) {
			propose(t, h, decide(id(1, n+6), 1, 2))
			seen = append(seen, api.Entry{Index: n + 7, Term: 1, Data: command.Encode(decide(id(1, n+6), 1, 2))})
		}
		for keep := -1; keep <= d.Len()-d.Sure()+1; keep++ {
			c := again(d)
			c.Crash(keep)
			g := made(t, planned(t, 1, quota), 0, c)
			last := g.Last()
			if last < sure || last > 11 || keep > d.Len()-d.Sure() && last != 11 || keep < 1 && last != sure {
				t.Fatalf("%d bytes kept: %d entries, %d are sure", keep, last, sure)
			}
			leads(t, g)
			if g.Term() != 2 || g.At() != last+1 {
				t.Errorf("%d bytes kept: term %d, at %d, last %d", keep, g.Term(), g.At(), last)
			}
			want, _ := replay(seen[:last])
			sameState(t, "behind a crash", g.State(), want)
		}
	}
}

// P18.1: New behind a crash at each moment of a life: what a Sync was told of stays.
func TestCrashAtEachStep(t *testing.T) {
	for _, quota := range []int{much, 2000, 100} {
		for _, keep := range []int{0, 1, 30, much} {
			d := disk.New()
			p := planned(t, 1, quota)
			h := made(t, p, 0, d)
			var seen []api.Entry
			for n := range uint64(150) {
				if n%7 == 6 {
					d.Crash(keep)
					h = made(t, p, 0, d)
				}
				if !h.Leads() {
					ticks(h, elect)
					h.Sync()
				}
				h.Propose(decide(id(1, n), 1, 1))
				if n%3 > 0 {
					h.Sync()
				}
				for _, x := range h.Seen() {
					if x.Index <= uint64(len(seen)) { // told once more behind a crash: the same
						same(t, "once more", x, seen[x.Index-1])
						continue
					}
					seen = append(seen, x)
				}
				if h.At() == uint64(len(seen)) {
					want, _ := replay(seen)
					sameState(t, "at each step", h.State(), want)
				} else if h.Leads() && h.Ready() {
					t.Fatalf("At %d, and %d were told", h.At(), len(seen))
				}
			}
		}
	}
}

// P18.1, P18.2: New behind a snapshot that it made: the state is that one's, and what is behind comes again, when it is known to be committed.
func TestNewBehindItsSnapshot(t *testing.T) {
	for n := host.Long - 3; n < 2*host.Long+3; n++ {
		h, d := alone(t, much)
		for i := range n {
			done(t, h, prepare(id(1, uint64(i)), 1, float64(i)))
		}
		d.Crash(0)
		g := made(t, planned(t, 1, much), 0, d)
		base := image(d).S.Index
		if base != h.At()/host.Long*host.Long || g.At() != base || g.Last() != h.Last() || len(g.Seen()) != 0 || g.Voters() != 1 {
			t.Fatalf("%d: At %d, last %d, a snapshot of %d", n, g.At(), g.Last(), base)
		}
		leads(t, g)
		sameState(t, "behind its snapshot", g.State(), h.State())
		if _, ok := g.Entry(base); ok {
			t.Errorf("%d: the entry %d is there", n, base)
		}
	}
}

// P18.2: a snapshot from another host: the state is that one's, and all is laid anew; what it has isn't told as applied. New behind it.
func TestSnapshotOfAnother(t *testing.T) {
	for _, behind := range []int{0, 1, 30} {
		c, a := begun(t, 3, much)
		cut := (a + 1) % 3
		propose(t, c.l[a], prepare(id(2, 1), 1, -1))
		c.rounds(beat)
		c.off = 1 << cut
		lost := c.l[cut]
		lost.Effects()
		lost.Seen()
		for n := range uint64(host.Long) {
			propose(t, c.l[a], prepare(id(1, n), 1, float64(n)))
			c.carry(2)
		}
		base := image(c.d[a]).S.Index
		if base == 0 || lost.At() >= base {
			t.Fatalf("a snapshot of %d, At %d", base, lost.At())
		}
		for n := range behind {
			propose(t, c.l[a], forget(id(1, uint64(n))))
		}
		c.off = 0
		c.rounds(4 * beat)
		if lost.At() != c.l[a].At() || lost.Last() != c.l[a].Last() || c.leader() != a {
			t.Fatalf("At %d, want %d", lost.At(), c.l[a].At())
		}
		sameState(t, "of another", lost.State(), c.l[a].State())
		m := image(c.d[cut])
		if m.S.Index != base || m.S.Voters != 7 || m.H.Term != lost.Term() || !bytes.Equal(wal.Whole(m)[:len(wal.Whole(wal.Image{S: m.S, H: m.H}))], c.d[cut].Read()[:len(wal.Whole(wal.Image{S: m.S, H: m.H}))]) {
			t.Errorf("the disk has a snapshot of %d, want %d", m.S.Index, base)
		}
		for n, x := range lost.Seen() {
			if x.Index != base+uint64(n)+1 {
				t.Errorf("the entry %d was seen, behind a snapshot of %d", x.Index, base)
			}
		}
		if l := lost.Effects(); len(l) != int(lost.At()-base)-behind {
			t.Errorf("%d effects of what is behind the snapshot", len(l))
		}
		c.d[cut].Crash(0)
		g := made(t, c.plan, cut, c.d[cut])
		if g.At() != base || g.Last() != lost.Last() || g.Voters() != 7 {
			t.Errorf("At %d, last %d", g.At(), g.Last())
		}
		c.l[cut] = g
		c.rounds(4 * beat)
		sameState(t, "behind one of another", g.State(), c.l[a].State())
	}
}

// P18.2: behind a snapshot of another host the disk has that at once, durable, ahead of any Sync.
func TestSnapshotOfAnotherIsLaid(t *testing.T) {
	d := disk.New()
	h := made(t, planned(t, 3, much), 1, d)
	is(t, "Take", h.Take(leader(2, 0, 0, 1, entries(1, 2, 2, 2)...)), api.OK)
	h.Sync()
	h.Seen()
	m := api.Message{Kind: api.Install, From: 0, To: 1, Term: 3, S: api.Snap{Index: 9, Term: 2, Voters: 3, Data: someState().Encode()}}
	is(t, "Take", h.Take(m), api.OK)
	want := wal.Whole(wal.Image{H: api.Hard{Term: 3, Vote: -1}, S: m.S})
	if !bytes.Equal(d.Read(), want) || d.Sure() != len(want) {
		t.Errorf("the disk has %x, want %x", d.Read(), want)
	}
	sameState(t, "of another", h.State(), someState())
	if h.At() != 9 || h.Last() != 9 || h.Voters() != 3 || len(h.Seen()) != 0 || len(h.Effects()) != 0 {
		t.Errorf("%+v", toldBy(h, d))
	}
	is(t, "an older one", h.Take(api.Message{Kind: api.Install, From: 0, To: 1, Term: 3, S: api.Snap{Index: 4, Term: 2, Voters: 7, Data: h.State().Encode()}}), api.OK)
	if h.At() != 9 || h.Voters() != 3 {
		t.Errorf("At %d", h.At())
	}
	is(t, "what is behind", h.Take(leader(3, 9, 2, 10, entries(10, 3)...)), api.OK)
	if h.At() != 10 || len(h.Seen()) != 1 || len(image(d).L) != 1 {
		t.Errorf("At %d", h.At())
	}
}
