package host_test

import (
	"math/rand"
	"testing"

	"dumbwaiter/api"
	"dumbwaiter/command"
	"dumbwaiter/config"
	"dumbwaiter/disk"
	"dumbwaiter/host"
	"dumbwaiter/lane"
	"dumbwaiter/mail"
	"dumbwaiter/raft"
	"dumbwaiter/wal"
)

// actor is a host with its disk, and what is known of it from outside.
type actor struct {
	h    *host.Host
	d    *disk.Disk
	at   uint64     // up to where it was last seen to have applied
	sent []host.Out // those that aren't of the group, and should go at the next Sync
}

// trial is hosts of a lane that are played by lot.
type trial struct {
	t     testing.TB
	lot   *rand.Rand
	plan  *config.Plan
	quota int
	l     []*actor
	under []api.Message
	seen  []api.Entry // the entry at place n has the index n + 1
	next  uint64
	done  map[string]int // how often something has happened
}

func newTrial(t testing.TB, seed int64) *trial {
	p := &trial{t: t, lot: rand.New(rand.NewSource(seed)), done: map[string]int{}}
	p.quota = []int{much, 4000, 300}[p.lot.Intn(3)]
	n := 1 + p.lot.Intn(5)
	p.plan = planned(t, n, p.quota)
	for me := range n {
		p.l = append(p.l, &actor{d: disk.New()})
		p.boot(me)
	}
	return p
}

// boot: a host is made anew. Its state is what the entries of its snapshot come to.
func (p *trial) boot(me int) {
	a := p.l[me]
	m := image(a.d)
	a.h, a.sent = made(p.t, p.plan, me, a.d), nil
	a.at = m.S.Index
	if a.h.At() != a.at || a.h.Last() != a.at+uint64(len(m.L)) || a.h.Term() != m.H.Term {
		p.t.Fatalf("%d: At %d, last %d, term %d, of %+v", me, a.h.At(), a.h.Last(), a.h.Term(), m)
	}
	p.stands(me, a)
}

// stands: is the state what the entries up to At come to?
func (p *trial) stands(me int, a *actor) {
	s, _ := replay(p.seen[:a.at])
	if text(s.Encode()) != text(a.h.State().Encode()) {
		p.t.Fatalf("%d: another state at %d", me, a.at)
	}
}

func (p *trial) anID() api.ID {
	if p.lot.Intn(6) == 0 {
		return id(lane.Inner, uint64(p.lot.Intn(4)))
	}
	return id(uint64(p.lot.Intn(3)), 1+p.next/8)
}

func (p *trial) aCommand(epoch uint64) api.Command {
	p.next++
	x, at := p.anID(), float64(p.lot.Intn(5))
	epoch -= min(uint64(p.lot.Intn(8)/6), epoch)
	switch p.lot.Intn(12) {
	case 0, 1, 2:
		return prepare(x, epoch, at)
	case 3, 4, 5:
		return finish(x, epoch, p.next, write(at, text(p.next)))
	case 6:
		return decide(x, epoch, uint64(p.lot.Intn(3)), api.Part{Writes: []api.Write{write(at, "w")}})
	case 7:
		return forget(x)
	case 8:
		c := grant(uint64(p.lot.Intn(3)))
		c.On = p.lot.Intn(3) > 0
		return c
	case 9:
		return give(x, epoch, write(at, text(p.next)))
	case 10:
		return closing(epoch)
	}
	return api.Command{Kind: byte(p.lot.Intn(256))}
}

// propose: what is proposed is taken, or not, as P18.3 says.
func (p *trial) propose(a *actor) {
	c := p.aCommand(a.h.State().Epoch())
	fresh := c.Kind == command.Prepare || c.Kind == command.Grant || c.Kind == command.Give
	want := api.OK
	switch {
	case !a.h.Leads():
		want = api.ErrLeader
	case fresh && a.d.Len()+entryLen(c) > p.quota:
		want = api.ErrFull
	}
	last := a.h.Last()
	e := a.h.Propose(c)
	if e != want || (a.h.Last() == last+1) != (e == api.OK) {
		p.t.Fatalf("Propose of the kind %d = %d, want %d", c.Kind, e, want)
	}
	p.done["answered "+text(e)]++
}

func (p *trial) close(a *actor) {
	last, goal := a.h.Last(), uint64(p.lot.Intn(20))
	may := a.h.Leads() && a.h.State().Epoch() < goal && a.h.State().May()
	a.h.Close(goal)
	if n := a.h.Last() - last; n > 1 || n == 1 && !may {
		p.t.Fatalf("Close(%d) in epoch %d: %d entries", goal, a.h.State().Epoch(), n)
	} else if n == 1 {
		p.done["closed"]++
	}
}

func (p *trial) send(a *actor) {
	p.next++
	x := host.Out{To: p.lot.Intn(5), M: api.Mail{Kind: mail.Done, ID: id(1, p.next)}}
	a.h.Send(x.To, x.M)
	a.sent = append(a.sent, x)
}

// sync: all is durable; the mails of the group go, then those that were sent.
func (p *trial) sync(me int, a *actor) {
	l := a.h.Sync()
	n := 0
	for n < len(l) && l[n].M.Kind == mail.Group {
		if l[n].M.M.From != me || l[n].To != l[n].M.M.To {
			p.t.Fatalf("%d: %+v", me, l[n])
		}
		p.under = append(p.under, l[n].M.M)
		n++
	}
	if text(l[n:]) != text(a.sent) {
		p.t.Fatalf("%d: there goes %v, want %v", me, l[n:], a.sent)
	}
	a.sent = nil
}

func (p *trial) deliver() {
	if len(p.under) == 0 {
		return
	}
	n := min(p.lot.Intn(len(p.under)), p.lot.Intn(4))
	m := p.under[n]
	p.under = append(p.under[:n], p.under[n+1:]...)
	if m.To >= len(p.l) || p.lot.Intn(20) == 0 {
		return
	}
	a := p.l[m.To]
	at := a.h.At()
	is(p.t, "Take", a.h.Take(m), api.OK)
	if m.Kind == api.Install && a.h.At() > at {
		p.done["installed"]++
	}
}

// act: one thing happens, by lot.
func (p *trial) act() {
	me := p.lot.Intn(len(p.l))
	a := p.l[me]
	switch k := p.lot.Intn(100); {
	case k < 18:
		a.h.Tick()
	case k < 40:
		p.sync(me, a)
	case k < 70:
		p.deliver()
	case k < 71:
		a.d.Crash(p.lot.Intn(100) - 5)
		p.boot(me)
		p.done["crashed"]++
	case k < 85:
		p.propose(a)
	case k < 90:
		p.close(a)
	case k < 92:
		p.send(a)
	case k < 93:
		if n := p.lot.Intn(len(p.l)); n != me && a.h.Change(a.h.Voters()^1<<n) == api.OK {
			p.done["changed"]++
		}
	default:
		a.h.Draw(p.lot.Float64())
	}
	p.look()
}

// look: does all that hosts tell behind a call hold?
func (p *trial) look() {
	for me, a := range p.l {
		p.lookDisk(me, a)
		p.lookSeen(me, a)
	}
}

// lookDisk: what must be kept is, and a snapshot was made where one is due.
func (p *trial) lookDisk(me int, a *actor) {
	m := image(a.d)
	if m.H.Term != a.h.Term() || m.S.Index+uint64(len(m.L)) != a.h.Last() {
		p.t.Fatalf("%d: the disk has %+v, term %d, last %d", me, m.H, a.h.Term(), a.h.Last())
	}
	behind := a.h.At() - m.S.Index
	if behind >= host.Long || behind > 0 && 2*a.d.Len() > p.quota {
		p.t.Fatalf("%d: %d entries behind the snapshot, %d bytes of %d", me, behind, a.d.Len(), p.quota)
	}
}

// lookSeen: the entries that were applied, each as at all hosts, and what they have done.
func (p *trial) lookSeen(me int, a *actor) {
	if a.h.At() == a.at {
		if len(a.h.Seen()) > 0 || len(a.h.Effects()) > 0 {
			p.t.Fatalf("%d tells something, though nothing was applied", me)
		}
		return
	}
	seen, effects := a.h.Seen(), a.h.Effects()
	first := a.h.At() - uint64(len(seen)) // where those begin that it has applied itself
	for n, x := range seen {
		i := first + uint64(n)
		if x.Index != i+1 || i > uint64(len(p.seen)) {
			p.t.Fatalf("%d: the entry %d in the place of %d, of %d", me, x.Index, i+1, len(p.seen))
		}
		if i == uint64(len(p.seen)) {
			p.seen = append(p.seen, x)
		}
		if text(p.seen[i]) != text(x) {
			p.t.Fatalf("%d: %+v was applied, and %+v", me, p.seen[i], x)
		}
	}
	_, before := replay(p.seen[:first])
	_, after := replay(p.seen[:a.h.At()])
	if text(after[len(before):]) != text(effects) {
		p.t.Fatalf("%d: %v was done, want %v", me, effects, after[len(before):])
	}
	p.done["effects"] += len(effects)
	a.at = a.h.At()
	p.stands(me, a)
}

// P18.1 to P18.3, P5: by lot: three kinds of disks, mails lost and in any order, crashes that keep any of what waits, a change of who votes.
func TestByLot(t *testing.T) {
	done := map[string]int{}
	for seed := range int64(60) {
		p := newTrial(t, seed)
		for range 2000 {
			p.act()
			if t.Failed() {
				t.Fatalf("seed %d", seed)
			}
		}
		for what, n := range p.done {
			done[what] += n
		}
		done["applied"] += len(p.seen)
	}
	for _, what := range []string{"installed", "crashed", "answered 0", "answered 3", "answered 7", "closed", "changed", "effects", "applied"} {
		if done[what] < 20 {
			t.Errorf("%s: %d times", what, done[what])
		}
	}
	t.Log(done)
}

// plain is a host by the words of P18.2: a member, a state and a disk.
type plain struct {
	r    *raft.Raft
	s    *lane.State
	d    *disk.Disk
	at   uint64
	term uint64 // in which a Close was proposed since the last was applied
}

func newPlain(n, me int) *plain {
	r, _ := raft.New(me, beat, elect, wal.Image{H: api.Hard{Vote: -1}, S: api.Snap{Voters: all(n)}})
	return &plain{r: r, s: lane.New(wide), d: disk.New()}
}

// behind: what is done behind each call.
func (x *plain) behind(quota int) {
	if s, ok := x.r.Save(); ok {
		x.d.Append(wal.Bytes(s))
	}
	if s, ok := x.r.Restore(); ok {
		x.s, _ = lane.Decode(s.Data)
		x.at = s.Index
		x.d.Put(wal.Whole(x.r.Image()))
	}
	for x.at < x.r.Commit() {
		x.at++
		e, _ := x.r.Entry(x.at)
		c, bad := command.Decode(e.Data)
		if e.Kind == api.Plain && bad == api.OK {
			if c.Kind == command.Close {
				x.term = 0
			}
			x.s.Apply(x.at, c)
		}
	}
	if n := x.at - x.r.Base(); n >= 64 || n > 0 && 2*x.d.Len() > quota {
		x.r.Compact(x.at, x.s.Encode())
		x.d.Put(wal.Whole(x.r.Image()))
	}
}

// P18.2, P18.3, P2: hosts by lot against plain ones that are told the same: who leads, what goes, what the disks have, byte by byte.
func TestAgainstPlainHosts(t *testing.T) {
	for seed := range int64(40) {
		lot := rand.New(rand.NewSource(seed))
		n := 1 + lot.Intn(4)
		quota := []int{much, 1500, 200}[lot.Intn(3)]
		c := ring(t, n, quota)
		var l []*plain
		for me := range n {
			l = append(l, newPlain(n, me))
		}
		for range 1000 {
			me := lot.Intn(n)
			h, x := c.l[me], l[me]
			switch k := lot.Intn(10); {
			case k < 2:
				h.Tick()
				x.r.Tick()
			case k < 3:
				goal := uint64(lot.Intn(30))
				h.Close(goal)
				if x.r.Leads() && x.s.Epoch() < goal && x.s.May() && x.term != x.r.Term() {
					x.r.Propose(command.Encode(closing(x.s.Epoch())))
					x.term = x.r.Term()
				}
			case k < 6:
				y := decide(id(1, uint64(lot.Intn(1000))), 1+uint64(lot.Intn(20)), 1)
				e := h.Propose(y)
				_, want := x.r.Propose(command.Encode(y))
				is(t, "Propose", e, want)
			default:
				x.d.Sync()
				out := x.r.Stable()
				same(t, "Sync", len(out), carryTo(c, l, out, h.Sync(), quota))
			}
			x.behind(quota)
			if h.Leads() != x.r.Leads() || h.Ready() != x.r.Ready() || h.Leader() != x.r.Leader() || h.Term() != x.r.Term() || h.At() != x.at || h.Last() != x.r.Last() || text(c.d[me].Read()) != text(x.d.Read()) || c.d[me].Sure() != x.d.Sure() {
				t.Fatalf("seed %d: %d: %+v", seed, me, toldBy(h, c.d[me]))
			}
			sameState(t, "a plain one", h.State(), x.s)
		}
	}
}

// carryTo: what goes comes to hosts and plain ones alike; how much it was.
func carryTo(c *circle, l []*plain, want []api.Message, got []host.Out, quota int) int {
	for n, m := range want {
		if n < len(got) {
			same(c.t, "what goes", got[n], host.Out{To: m.To, M: api.Mail{Kind: mail.Group, M: m}})
		}
		is(c.t, "Take", c.l[m.To].Take(m), l[m.To].r.Step(m))
		l[m.To].behind(quota)
	}
	return len(got)
}
