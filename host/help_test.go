package host_test

import (
	"bytes"
	"fmt"
	"math"
	"reflect"
	"testing"

	"dumbwaiter/api"
	"dumbwaiter/command"
	"dumbwaiter/config"
	"dumbwaiter/disk"
	"dumbwaiter/host"
	"dumbwaiter/lane"
	"dumbwaiter/mail"
	"dumbwaiter/wal"
)

// What most tests here take: ticks of a heartbeat, of an election; bytes to which what is released is padded.
const (
	beat  = 2
	elect = 4
	wide  = 4
	much  = 1 << 20 // bytes of a disk that aren't reached
)

// all: the nodes from 0 on, so many, bit by bit.
func all(n int) uint64 { return 1<<n - 1 }

// text: all that is in something; nil and empty lists are the same there, and all NaNs; noughts aren't.
func text(x any) string { return fmt.Sprintf("%v", x) }

func same(t testing.TB, what string, got, want any) {
	t.Helper()
	if text(got) != text(want) {
		t.Errorf("%s: %v, want %v", what, got, want)
	}
}

// is: has a call answered that?
func is(t testing.TB, what string, got, want api.Errno) {
	t.Helper()
	if got != want {
		t.Errorf("%s: %d, want %d", what, got, want)
	}
}

// planned: a plan of two labels with two shards each: the lanes 0 to 3, and the rules.
func planned(t testing.TB, nodes, quota int) *config.Plan {
	t.Helper()
	p, e := config.New(api.Config{Up: []uint64{3, 2}, Nodes: nodes, Cuts: []float64{0}, Frame: 128, Depth: 64, Quota: quota, Wide: wide, Beat: beat, Elect: elect})
	if e != api.OK {
		t.Fatalf("no plan of %d nodes, %d bytes: %d", nodes, quota, e)
	}
	return p
}

func made(t testing.TB, p *config.Plan, node int, d *disk.Disk) *host.Host {
	t.Helper()
	h, e := host.New(p, node, 2, d)
	if e != api.OK || h == nil {
		t.Fatalf("New(%d) = %v, %d", node, h, e)
	}
	return h
}

// kept: a disk with some bytes, all durable.
func kept(p []byte) *disk.Disk {
	d := disk.New()
	d.Put(p)
	return d
}

// laid: a disk with an image.
func laid(m wal.Image) *disk.Disk { return kept(wal.Whole(m)) }

func ticks(h *host.Host, n int) {
	for range n {
		h.Tick()
	}
}

// leads: a host alone comes to lead; its first entry is applied, and was told.
func leads(t testing.TB, h *host.Host) {
	t.Helper()
	ticks(h, 2*elect)
	h.Sync()
	if !h.Ready() {
		t.Fatalf("it doesn't lead: term %d, last %d, voters %b", h.Term(), h.Last(), h.Voters())
	}
	h.Seen()
}

// alone: a host that leads alone, and its disk.
func alone(t testing.TB, quota int) (*host.Host, *disk.Disk) {
	t.Helper()
	d := disk.New()
	h := made(t, planned(t, 1, quota), 0, d)
	leads(t, h)
	return h, d
}

// propose: a command is an entry.
func propose(t testing.TB, h *host.Host, c api.Command) {
	t.Helper()
	last := h.Last()
	if e := h.Propose(c); e != api.OK || h.Last() != last+1 {
		t.Fatalf("Propose of the kind %d = %d, %d entries more", c.Kind, e, h.Last()-last)
	}
}

// done: a command is proposed, and durable, and has done what?
func done(t testing.TB, h *host.Host, c api.Command) []api.Effect {
	t.Helper()
	propose(t, h, c)
	h.Sync()
	return h.Effects()
}

// image: what a disk has.
func image(d *disk.Disk) wal.Image {
	m, _ := wal.Scan(d.Read())
	return m
}

// entryLen: how many bytes of a disk a command takes.
func entryLen(c api.Command) int {
	return len(wal.Bytes(wal.Save{Entries: []api.Entry{{Data: command.Encode(c)}}}))
}

// The commands.

func id(session, seq uint64) api.ID { return api.ID{Session: session, Seq: seq} }

func write(at float64, val string) api.Write { return api.Write{At: at, Val: []byte(val)} }

func closing(epoch uint64) api.Command { return api.Command{Kind: command.Close, Epoch: epoch} }

func prepare(x api.ID, epoch uint64, puts ...float64) api.Command {
	return api.Command{Kind: command.Prepare, Hold: api.Hold{ID: x, Epoch: epoch, Puts: puts}}
}

func finish(x api.ID, epoch, index uint64, l ...api.Write) api.Command {
	return api.Command{Kind: command.Finish, ID: x, Epoch: epoch, Index: index, Writes: l}
}

func decide(x api.ID, epoch, shards uint64, l ...api.Part) api.Command {
	return api.Command{Kind: command.Decide, ID: x, Epoch: epoch, Shards: shards, Parts: l}
}

func forget(x api.ID) api.Command { return api.Command{Kind: command.Forget, ID: x} }

func grant(rule uint64) api.Command {
	return api.Command{Kind: command.Grant, Rule: api.Rule{ID: rule, From: 1, Hi: 9, Quota: 2}, On: true}
}

func give(x api.ID, epoch uint64, w api.Write) api.Command {
	return api.Command{Kind: command.Give, ID: x, Epoch: epoch, Rule: api.Rule{ID: 7, Quota: 2}, Writes: []api.Write{w}}
}

// eachKind: commands of each kind, those of which the disk must have room first, and of kinds that are none.
func eachKind() (fresh, others []api.Command) {
	fresh = []api.Command{prepare(id(8, 1), 1, 5), grant(9), give(id(9, 1), 1, write(1, "given"))}
	others = []api.Command{
		closing(1), finish(id(8, 1), 1, 2, write(5, "v")), decide(id(8, 2), 1, 1), forget(id(8, 2)),
		{}, {Kind: command.Give + 1}, {Kind: math.MaxUint8},
	}
	return fresh, others
}

// told: all that a host tells without being changed, and what its disk has.
type told struct {
	State              []byte
	Leads, Ready       bool
	Leader             int
	Term, At, Last     uint64
	Voters             uint64
	Entries            []api.Entry
	Disk               []byte
	Sure, Ops, Beyond  int
	BeyondLast, Nought api.Entry
}

// toldBy: what that is now.
func toldBy(h *host.Host, d *disk.Disk) told {
	x := told{
		State: h.State().Encode(), Leads: h.Leads(), Ready: h.Ready(), Leader: h.Leader(), Term: h.Term(), At: h.At(), Last: h.Last(), Voters: h.Voters(),
		Disk: d.Read(), Sure: d.Sure(), Ops: d.Ops(),
	}
	from := h.At() - min(h.At(), 2*host.Long)
	for n := range h.Last() - from + 1 {
		if e, ok := h.Entry(from + n); ok {
			x.Entries = append(x.Entries, e)
			x.Beyond = max(x.Beyond, int(e.Index)-int(h.At()))
		}
	}
	x.BeyondLast, _ = h.Entry(h.Last() + 1)
	x.Nought, _ = h.Entry(0)
	return x
}

// unchanged: does something change nothing that a host tells, or its disk has?
func unchanged(t testing.TB, what string, h *host.Host, d *disk.Disk, do func()) {
	t.Helper()
	before := text(toldBy(h, d))
	do()
	if after := text(toldBy(h, d)); after != before {
		t.Errorf("%s: %s, before %s", what, after, before)
	}
	if f, l := h.Effects(), h.Seen(); len(f) > 0 || len(l) > 0 {
		t.Errorf("%s: %v, %v", what, f, l)
	}
}

// spoil: all that lists in something have is written over.
func spoil(x any) { spoilValue(reflect.ValueOf(x)) }

func spoilValue(x reflect.Value) {
	switch x.Kind() {
	case reflect.Struct:
		for i := range x.NumField() {
			spoilValue(x.Field(i))
		}
	case reflect.Slice:
		for i := range x.Len() {
			spoilValue(x.Index(i))
			x.Index(i).SetZero()
		}
	}
}

// replay: what a lane comes to by these entries, from the beginning on, and what they have done.
func replay(l []api.Entry) (*lane.State, []api.Effect) {
	s := lane.New(wide)
	var some []api.Effect
	for _, x := range l {
		c, e := command.Decode(x.Data)
		if x.Kind != api.Plain || e != api.OK {
			continue
		}
		if f := s.Apply(x.Index, c); f.Kind != lane.Nothing {
			some = append(some, f)
		}
	}
	return s, some
}

func sameState(t testing.TB, what string, a, b *lane.State) {
	t.Helper()
	if !bytes.Equal(a.Encode(), b.Encode()) {
		t.Errorf("%s: another state", what)
	}
}

// circle is hosts of one lane, whose mails are carried from one to another.
type circle struct {
	t    testing.TB
	plan *config.Plan
	l    []*host.Host
	d    []*disk.Disk
	off  uint64 // who is cut off, bit by bit
}

func ring(t testing.TB, nodes, quota int) *circle {
	t.Helper()
	c := &circle{t: t, plan: planned(t, nodes, quota)}
	for n := range nodes {
		d := disk.New()
		c.d = append(c.d, d)
		c.l = append(c.l, made(t, c.plan, n, d))
	}
	return c
}

func (c *circle) isOff(n int) bool { return c.off>>n&1 != 0 }

// carry: mails go to and fro, as often as that.
func (c *circle) carry(times int) {
	for range times {
		for n, h := range c.l {
			for _, x := range h.Sync() {
				if x.M.Kind == mail.Group && !c.isOff(n) && !c.isOff(x.To) {
					is(c.t, "Take", c.l[x.To].Take(x.M.M), api.OK)
				}
			}
		}
	}
}

// rounds: a tick, then mails go to and fro.
func (c *circle) rounds(n int) {
	for range n {
		for _, h := range c.l {
			h.Tick()
		}
		c.carry(6)
	}
}

// leader: who leads, as all say that aren't cut off.
func (c *circle) leader() int {
	c.t.Helper()
	leader := -1
	for n, h := range c.l {
		if !c.isOff(n) && h.Leads() {
			leader = n
		}
	}
	for n, h := range c.l {
		if leader < 0 || !c.isOff(n) && h.Leader() != leader {
			c.t.Fatalf("%d leads, and %d says that %d does", leader, n, h.Leader())
		}
	}
	return leader
}

// begun: hosts of which one leads, and what was applied at the beginning was told.
func begun(t testing.TB, nodes, quota int) (*circle, int) {
	t.Helper()
	c := ring(t, nodes, quota)
	c.rounds(3 * elect)
	for _, h := range c.l {
		h.Seen()
	}
	return c, c.leader()
}
