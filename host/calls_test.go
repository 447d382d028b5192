package host_test

import (
	"bytes"
	"math"
	"testing"

	"dumbwaiter/api"
	"dumbwaiter/command"
	"dumbwaiter/disk"
	"dumbwaiter/host"
	"dumbwaiter/lane"
	"dumbwaiter/mail"
	"dumbwaiter/raft"
	"dumbwaiter/wal"
)

// P18.3: of a nil host: ErrNone, nothing, 0, -1.
func TestNilHost(t *testing.T) {
	var h *host.Host
	h.Tick()
	h.Draw(1)
	h.Close(9)
	h.Send(1, api.Mail{Kind: mail.Done})
	is(t, "Take", h.Take(api.Message{Kind: api.Append, From: 1, Term: 1}), api.ErrNone)
	is(t, "Propose", h.Propose(closing(1)), api.ErrNone)
	is(t, "Change", h.Change(1), api.ErrNone)
	if h.Sync() != nil || h.Effects() != nil || h.Seen() != nil || h.State() != nil {
		t.Error("it tells something")
	}
	if h.Leads() || h.Ready() || h.Leader() != -1 || h.Term() != 0 || h.At() != 0 || h.Last() != 0 || h.Voters() != 0 {
		t.Errorf("leader %d, term %d, at %d, last %d, voters %d", h.Leader(), h.Term(), h.At(), h.Last(), h.Voters())
	}
	if x, ok := h.Entry(0); ok || text(x) != text(api.Entry{}) {
		t.Errorf("%+v, %v", x, ok)
	}
}

// P18.3: who doesn't lead proposes nothing: ErrLeader, whatever else there is against it; Close does nothing.
func TestDoesNotLead(t *testing.T) {
	p := planned(t, 3, 1)
	d := disk.New()
	h := made(t, p, 1, d)
	refuses := func(what string) {
		t.Helper()
		unchanged(t, what, h, d, func() {
			fresh, others := eachKind()
			for _, x := range append(fresh, others...) {
				is(t, what, h.Propose(x), api.ErrLeader)
			}
			is(t, what, h.Propose(prepare(id(1, 1), 1, make([]float64, api.MaxRecord/8)...)), api.ErrLeader)
			is(t, what, h.Change(3), api.ErrLeader)
			is(t, what, h.Change(0), api.ErrLeader)
			h.Close(9)
			h.Close(math.MaxUint64)
		})
	}
	refuses("at first")
	is(t, "Take", h.Take(leader(2, 0, 0, 1, entries(1, 2, 2)...)), api.OK)
	h.Seen()
	refuses("follows")
	ticks(h, 3*elect)
	refuses("asks")
	is(t, "Take", h.Take(api.Message{Kind: api.PreOK, From: 0, To: 1, Term: 3, OK: true}), api.OK)
	refuses("a candidate")
}

// P18.3: Take's error is raft.Step's, and then nothing happens.
func TestTakeErrors(t *testing.T) {
	d := disk.New()
	h := made(t, planned(t, 3, much), 1, d)
	good := leader(2, 0, 0, 1, entries(1, 2)...)
	wrong := []api.Message{{}}
	for _, change := range []func(*api.Message){
		func(m *api.Message) { m.To = 2 }, func(m *api.Message) { m.To = -1 },
		func(m *api.Message) { m.From = 1 }, func(m *api.Message) { m.From = 7 }, func(m *api.Message) { m.From = -1 },
		func(m *api.Message) { m.Kind = 0 }, func(m *api.Message) { m.Kind = api.Install + 1 }, func(m *api.Message) { m.Term = 0 },
		func(m *api.Message) { m.Kind, m.To = api.Install, 0 },
		func(m *api.Message) {
			m.Kind, m.Term, m.S = api.Install, 0, api.Snap{Index: 9, Data: someState().Encode()}
		},
	} {
		m := good
		change(&m)
		wrong = append(wrong, m)
	}
	for _, m := range wrong {
		unchanged(t, "Take", h, d, func() { is(t, text(m), h.Take(m), api.ErrArg) })
	}
	is(t, "Take", h.Take(good), api.OK)
	if h.At() != 1 || h.Leader() != 0 {
		t.Errorf("At %d, leader %d", h.At(), h.Leader())
	}
}

// P18.3: with a Prepare, a Grant or a Give the disk may have just Quota bytes: with one more ErrFull, and nothing changes; each other command is taken there.
func TestQuota(t *testing.T) {
	_, d := alone(t, much)
	size := d.Len()
	fresh, others := eachKind()
	for _, x := range fresh {
		quota := size + entryLen(x)
		if quota < 2*size {
			t.Fatalf("the kind %d takes %d bytes, %d are there: a snapshot would be made", x.Kind, entryLen(x), size)
		}
		h, d := alone(t, quota)
		propose(t, h, x)
		if m := image(d); len(m.L)+int(m.S.Index) != 2 {
			t.Errorf("the kind %d: %d entries", x.Kind, len(m.L))
		}
		h, d = alone(t, quota-1)
		unchanged(t, "full", h, d, func() { is(t, "one byte more", h.Propose(x), api.ErrFull) })
		for n, y := range others {
			if y.Kind == 0 { // it takes no bytes but its record's
				continue
			}
			h, _ := alone(t, min(quota-1, size+entryLen(y)-1))
			if e := h.Propose(y); e != api.OK || h.Last() != 2 {
				t.Errorf("%d: the kind %d with a full disk: %d", n, y.Kind, e)
			}
			h.Sync()
		}
	}
	h, d := alone(t, 1)
	for _, x := range fresh {
		unchanged(t, "full", h, d, func() { is(t, "a disk that is full", h.Propose(x), api.ErrFull) })
	}
	for n, x := range others {
		is(t, "each other kind", h.Propose(x), api.OK)
		h.Sync()
		if h.At() != uint64(n+2) {
			t.Errorf("the kind %d isn't applied", x.Kind)
		}
	}
}

// P18.3: what waits counts too: behind entries that aren't durable the disk is full at just as many bytes.
func TestQuotaCountsWhatWaits(t *testing.T) {
	c := prepare(id(1, 1), 1, make([]float64, api.MaxOps)...)
	_, d := alone(t, much)
	size := d.Len()
	for n := range 4 {
		h, d := alone(t, size+n*entryLen(forget(id(1, 1)))+entryLen(c))
		for range n {
			propose(t, h, forget(id(1, 1)))
		}
		propose(t, h, c)
		h.Sync()
		if h.At() != uint64(n+2) || d.Len() == 0 {
			t.Errorf("%d ahead: At %d", n, h.At())
		}
		h, d = alone(t, size+n*entryLen(forget(id(1, 1)))+entryLen(c)-1)
		for range n {
			propose(t, h, forget(id(1, 1)))
		}
		unchanged(t, "full", h, d, func() { is(t, "one byte more", h.Propose(c), api.ErrFull) })
	}
}

// P18.3: the disk becomes free by a snapshot, and takes what is new again.
func TestQuotaIsFreeAgain(t *testing.T) {
	h, d := alone(t, 600)
	full := 0
	for n := range uint64(400) {
		switch e := h.Propose(prepare(id(1, 1), 1, float64(n))); e {
		case api.OK:
		case api.ErrFull:
			full++
			h.Sync()
			is(t, "behind a snapshot", h.Propose(prepare(id(1, 1), 1, float64(n))), api.OK)
		default:
			t.Fatalf("%d: %d", n, e)
		}
		if d.Len() > 600 {
			t.Fatalf("%d bytes", d.Len())
		}
	}
	if full == 0 || h.State().Epoch() != 1 {
		t.Errorf("%d times full", full)
	}
}

// P18.3: raft.Propose's errors, behind ErrFull: at half of MaxRecord an entry works, one byte beyond it is ErrLong.
func TestProposeLong(t *testing.T) {
	long := func(n int) api.Command {
		c := api.Command{Kind: command.Prepare}
		c.Hold.Data = make([]byte, n-len(command.Encode(c)))
		return c
	}
	most := api.MaxRecord / 2
	h, d := alone(t, 1<<28)
	unchanged(t, "one beyond", h, d, func() { is(t, "one beyond", h.Propose(long(most+1)), api.ErrLong) })
	is(t, "at it", h.Propose(long(most)), api.OK)
	h.Sync()
	if h.At() != 2 || len(h.Effects()) != 0 {
		t.Errorf("At %d: so long a hold is no command's", h.At())
	}
	h, d = alone(t, most)
	unchanged(t, "full", h, d, func() { is(t, "ErrFull goes ahead", h.Propose(long(most+1)), api.ErrFull) })
	decided := decide(id(1, 1), 1, 1, api.Part{Writes: []api.Write{write(1, string(make([]byte, most)))}})
	unchanged(t, "long", h, d, func() { is(t, "a Decide is never too much for the disk", h.Propose(decided), api.ErrLong) })
}

// closes: how many entries does Close propose?
func closes(h *host.Host, goal uint64) uint64 {
	last := h.Last()
	h.Close(goal)
	return h.Last() - last
}

// P18.3: Close: the epoch that is open, if it is below the goal.
func TestCloseGoal(t *testing.T) {
	h, _ := alone(t, much)
	for epoch := uint64(1); epoch < 5; epoch++ {
		for _, goal := range []uint64{0, epoch - 1, epoch} {
			if n := closes(h, goal); n != 0 {
				t.Errorf("epoch %d, goal %d: %d entries", epoch, goal, n)
			}
		}
		if n := closes(h, epoch+1); n != 1 {
			t.Fatalf("epoch %d, goal %d: %d entries", epoch, epoch+1, n)
		}
		h.Sync()
		same(t, "Seen", h.Seen(), []api.Entry{{Index: epoch + 1, Term: 1, Data: command.Encode(closing(epoch))}})
		same(t, "Effects", h.Effects(), []api.Effect{{Kind: lane.Closed}})
		if h.State().Epoch() != epoch+1 {
			t.Fatalf("epoch %d", h.State().Epoch())
		}
	}
	if n := closes(h, math.MaxUint64); n != 1 {
		t.Errorf("the greatest goal: %d entries", n)
	}
}

// P18.3: Close: not while something of the epoch is held; what is held of a later one alone doesn't count.
func TestCloseWhileHeld(t *testing.T) {
	h, _ := alone(t, much)
	done(t, h, prepare(id(1, 1), 1, 5))
	done(t, h, prepare(id(lane.Inner, 1), 1, 6))
	if closes(h, 9) != 0 {
		t.Error("something is held")
	}
	done(t, h, finish(id(1, 1), 1, 1))
	if closes(h, 9) != 0 {
		t.Error("something is held still")
	}
	done(t, h, prepare(id(lane.Inner, 1), 2, 6))
	if closes(h, 9) != 1 {
		t.Error("what is held is of a later epoch")
	}
	h.Sync()
	if h.State().Epoch() != 2 || closes(h, 9) != 0 {
		t.Errorf("epoch %d", h.State().Epoch())
	}
	done(t, h, finish(id(lane.Inner, 1), 2, 1))
	if closes(h, 9) != 1 {
		t.Error("nothing is held any more")
	}
}

// P18.3: Close: not while one that was proposed isn't applied yet, by Propose or by Close; one that has come too late to close the epoch is applied too.
func TestCloseOnce(t *testing.T) {
	h, _ := alone(t, much)
	if closes(h, 9) != 1 || closes(h, 9) != 0 || closes(h, 2) != 0 {
		t.Error("one is on its way")
	}
	h.Tick()
	if closes(h, 9) != 0 {
		t.Error("one is on its way still")
	}
	h.Sync()
	if h.State().Epoch() != 2 {
		t.Fatalf("epoch %d", h.State().Epoch())
	}
	propose(t, h, closing(2))
	if closes(h, 9) != 0 {
		t.Error("one was proposed by hand")
	}
	h.Sync()
	propose(t, h, prepare(id(1, 1), 3, 5))
	if closes(h, 9) != 1 {
		t.Error("nothing is held as yet")
	}
	h.Sync()
	if h.State().Epoch() != 3 || closes(h, 9) != 0 {
		t.Errorf("epoch %d, and something is held", h.State().Epoch())
	}
	done(t, h, finish(id(1, 1), 3, 1))
	if closes(h, 9) != 1 {
		t.Error("the one that was applied has done nothing: it needs another one")
	}
	h.Sync()
	if h.State().Epoch() != 4 {
		t.Errorf("epoch %d", h.State().Epoch())
	}
}

// P18.3: Close: one of an earlier term doesn't count.
func TestCloseInALaterTerm(t *testing.T) {
	c, a := begun(t, 3, much)
	h := c.l[a]
	c.off = 1 << a
	if closes(h, 9) != 1 || closes(h, 9) != 0 {
		t.Fatal("one is on its way")
	}
	c.rounds(6 * elect)
	b := c.leader()
	if b == a {
		t.Fatal("no other one leads")
	}
	c.off = 0
	c.rounds(2 * elect)
	if h.Leads() || closes(h, 9) != 0 {
		t.Error("who has led follows")
	}
	c.off = 1 << b
	term := h.Term()
	for n := 0; n < 200 && !h.Leads(); n++ {
		h.Draw(0)
		c.rounds(1)
		if c.l[3-a-b].Leads() {
			t.Fatal("the third one leads")
		}
	}
	if h.Term() <= term || h.State().Epoch() != 1 || closes(h, 9) != 1 || closes(h, 9) != 0 {
		t.Errorf("term %d behind %d, epoch %d", h.Term(), term, h.State().Epoch())
	}
	c.rounds(beat)
	if h.State().Epoch() != 2 || closes(h, 9) != 1 {
		t.Errorf("epoch %d", h.State().Epoch())
	}
}

// some: mails of each kind, with something in each list.
func some() []api.Mail {
	x := id(1, 2)
	hold := api.Hold{ID: x, Epoch: 3, Gets: []float64{1}, Scans: [][2]float64{{2, 3}}, Puts: []float64{4}, Data: []byte("d")}
	r := api.Reply{E: api.ErrConflict, Gots: []api.Got{{Has: true, Val: []byte("g")}}, Scans: [][]api.Pair{{{At: 1, Val: []byte("p")}}}}
	c := finish(x, 3, 4, write(5, "five"))
	c.Hold, c.R, c.Parts = hold, r, []api.Part{{Shard: 1, Writes: []api.Write{write(6, "six")}}}
	m := leader(1, 2, 3, 4, api.Entry{Index: 5, Data: []byte("e")})
	m.S = api.Snap{Index: 1, Data: []byte("s")}
	return []api.Mail{
		{Kind: mail.Hold, H: hold}, {Kind: mail.Voted, H: hold, R: r}, {Kind: mail.Finish, C: c},
		{Kind: mail.Done, ID: x}, {Kind: mail.Ask, H: hold}, {Kind: mail.Group, M: m}, {}, {Kind: 99, M: m, H: hold, ID: x, R: r, C: c},
	}
}

// P18.3: a mail goes at the next Sync and no sooner, once, behind those of the group, in order, to whomever it was sent.
func TestMails(t *testing.T) {
	d := disk.New()
	h := made(t, planned(t, 3, much), 1, d)
	var want []host.Out
	for n, m := range some() {
		to := []int{2, 0, 2, 1, -1, math.MaxInt, 0, math.MinInt}[n]
		h.Send(to, m)
		want = append(want, host.Out{To: to, M: m})
		if n == 3 {
			h.Take(api.Message{Kind: api.Ask, From: 2, To: 1, Term: 3})
			h.Take(api.Message{Kind: api.Ask, From: 0, To: 1, Term: 3})
		}
		h.Tick()
	}
	group := []host.Out{
		{To: 2, M: api.Mail{Kind: mail.Group, M: api.Message{Kind: api.Vote, From: 1, To: 2, Term: 3, OK: true}}},
		{To: 0, M: api.Mail{Kind: mail.Group, M: api.Message{Kind: api.Vote, From: 1, To: 0, Term: 3}}},
	}
	l := h.Sync()
	var others []host.Out
	for n, x := range l {
		if n < len(group) {
			same(t, "of the group", x, group[n])
		} else if x.M.Kind == mail.Group && x.M.M.Kind == api.Pre {
			group = append(group, x)
		} else {
			others = append(others, x)
		}
	}
	same(t, "the others", others, want)
	if l := h.Sync(); len(l) != 0 {
		t.Errorf("%v goes again", l)
	}
	h.Send(0, want[0].M)
	h.Send(0, want[0].M)
	same(t, "the same twice", h.Sync(), []host.Out{{0, want[0].M}, {0, want[0].M}})
}

// P18.3: a leader's messages go as Group, ahead of what was sent before they were made.
func TestGroupGoesFirst(t *testing.T) {
	c, a := begun(t, 3, much)
	h := c.l[a]
	done := api.Mail{Kind: mail.Done, ID: id(1, 1)}
	h.Send(a, done)
	propose(t, h, closing(1))
	l := h.Sync()
	if len(l) != 3 {
		t.Fatalf("%d mails", len(l))
	}
	for n, x := range l[:2] {
		m := x.M.M
		if x.M.Kind != mail.Group || m.Kind != api.Append || m.From != a || m.To != x.To || len(m.Entries) != 1 || n > 0 && x.To <= l[n-1].To {
			t.Errorf("%+v", x)
		}
		same(t, "nothing else of a mail is told", x.M, api.Mail{Kind: mail.Group, M: m})
	}
	same(t, "the other one", l[2], host.Out{To: a, M: done})
}

// P18.3: no message of the group goes ahead of what it hangs on being durable.
func TestDurableFirst(t *testing.T) {
	d := disk.New()
	h := made(t, planned(t, 3, much), 1, d)
	is(t, "Take", h.Take(leader(2, 0, 0, 0, entries(1, 2, 2)...)), api.OK)
	if d.Sure() != 0 || d.Len() == 0 {
		t.Errorf("%d of %d bytes are durable", d.Sure(), d.Len())
	}
	l := h.Sync()
	if len(l) != 1 || l[0].M.M.Kind != api.Ack || l[0].M.M.Index != 2 || d.Sure() != d.Len() {
		t.Errorf("%+v, %d of %d bytes are durable", l, d.Sure(), d.Len())
	}
}

// P18.3: Tick and Draw are raft's: a host asks, and leads, just when a member does that is told the same.
func TestTicksAreRafts(t *testing.T) {
	for _, x := range []float64{-1, 0, 0.25, 0.5, 0.999, 1, math.Inf(1), math.NaN()} {
		for node := range 3 {
			h := made(t, planned(t, 3, much), node, disk.New())
			r, _ := raft.New(node, beat, elect, wal.Image{H: api.Hard{Vote: -1}, S: api.Snap{Voters: 7}})
			for n := range 40 {
				if n%5 == 3 {
					h.Draw(x)
					r.Draw(x)
				}
				h.Tick()
				r.Tick()
				r.Save()
				var want []host.Out
				for _, m := range r.Stable() {
					want = append(want, host.Out{To: m.To, M: api.Mail{Kind: mail.Group, M: m}})
				}
				same(t, "what goes", h.Sync(), want)
			}
		}
	}
}

// P18.3: Change is raft's: one more, or one less; its errors; what it says holds at once, and counts as applied when its turn comes.
func TestChange(t *testing.T) {
	c, a := begun(t, 3, much)
	h := c.l[a]
	other := (a + 1) % 3
	unchanged(t, "Change", h, c.d[a], func() {
		for _, voters := range []uint64{0, 7, 4, 1 << 7, 1<<7 | 7, math.MaxUint64} {
			is(t, text(voters), h.Change(voters), api.ErrArg)
		}
		is(t, "who follows", c.l[other].Change(3), api.ErrLeader)
	})
	next := 7 &^ (uint64(1) << other)
	at := h.Last()
	is(t, "Change", h.Change(next), api.OK)
	if h.Voters() != next || h.Last() != at+1 || h.At() != at || c.l[other].Voters() != 7 {
		t.Errorf("voters %b, last %d, at %d", h.Voters(), h.Last(), h.At())
	}
	unchanged(t, "Change", h, c.d[a], func() { is(t, "one isn't committed", h.Change(7), api.ErrConflict) })
	c.rounds(2 * beat)
	if h.At() != at+1 || len(h.Effects()) != 0 || image(c.d[a]).L[at].Kind != api.Voters {
		t.Errorf("at %d", h.At())
	}
	if l := h.Seen(); len(l) != 1 || l[0].Kind != api.Voters || l[0].Index != at+1 {
		t.Errorf("%+v", l)
	}
	is(t, "back", h.Change(7), api.OK)
	c.rounds(2 * beat)
	for n, g := range c.l {
		if g.Voters() != 7 || g.At() != at+2 && n != other {
			t.Errorf("%d: voters %b, at %d", n, g.Voters(), g.At())
		}
	}
}

// P18.3, P1: a snapshot that is no state's has not come: the state stays, and what comes is taken; the term is heard of.
func TestInstallOfNoState(t *testing.T) {
	d := disk.New()
	h := made(t, planned(t, 3, much), 1, d)
	h.Take(leader(2, 0, 0, 1, api.Entry{Index: 1, Term: 2, Data: command.Encode(prepare(id(1, 1), 1, 5))}))
	before := h.State().Encode()
	for _, data := range [][]byte{nil, {}, []byte("no state"), before[:len(before)-1], append(bytes.Clone(before), 0)} {
		m := api.Message{Kind: api.Install, From: 0, To: 1, Term: 3, S: api.Snap{Index: 9, Term: 2, Voters: 7, Data: data}}
		is(t, "Take", h.Take(m), api.OK)
		if h.At() != 1 || h.Last() != 1 || h.Term() != 3 || h.Leader() != 0 || !bytes.Equal(h.State().Encode(), before) {
			t.Errorf("%q: %+v", data, toldBy(h, d))
		}
		h.Sync()
		made(t, planned(t, 3, much), 1, d)
	}
	is(t, "Take", h.Take(leader(3, 1, 2, 2, api.Entry{Index: 2, Term: 3, Data: command.Encode(finish(id(1, 1), 1, 1))})), api.OK)
	if h.At() != 2 || len(h.State().Holders()) != 0 {
		t.Errorf("At %d", h.At())
	}
	m := api.Message{Kind: api.Install, From: 0, To: 1, Term: 3, S: api.Snap{Index: math.MaxUint64, Term: 3, Voters: 7, Data: before}}
	is(t, "the last index", h.Take(m), api.OK)
	h.Take(leader(3, math.MaxUint64, 3, math.MaxUint64, api.Entry{Index: 0, Term: 3}))
	if h.At() != math.MaxUint64 || h.Last() != math.MaxUint64 {
		t.Errorf("At %d", h.At())
	}
}
