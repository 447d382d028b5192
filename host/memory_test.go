package host_test

import (
	"math/rand"
	"testing"

	"dumbwaiter/api"
	"dumbwaiter/config"
	"dumbwaiter/host"
	"dumbwaiter/mail"
	"dumbwaiter/own"
	"dumbwaiter/wal"
)

// life: what three hosts tell in a life by lot, of which all is written over that was handed in, or told, if spoils.
func life(t *testing.T, seed int64, spoils bool) []string {
	var said []string
	lot := rand.New(rand.NewSource(seed))
	c := ring(t, 3, []int{much, 1500}[seed%2])
	tell := func(x any) {
		said = append(said, text(x))
		if spoils {
			spoil(x)
		}
	}
	var under []api.Message
	for range 1200 {
		me := lot.Intn(3)
		h := c.l[me]
		switch lot.Intn(9) {
		case 0:
			h.Tick()
		case 1, 2:
			l := h.Sync()
			for _, x := range l {
				if x.M.Kind == mail.Group {
					under = append(under, own.Message(x.M.M))
				}
			}
			tell(l)
		case 3:
			m := some()[lot.Intn(8)]
			h.Send(me, m)
			if spoils {
				spoil(m)
			}
		case 4:
			epoch := h.State().Epoch()
			x := []api.Command{
				prepare(id(1, uint64(lot.Intn(9))), epoch, float64(lot.Intn(9))), finish(id(1, uint64(lot.Intn(9))), epoch, 1, write(1, "v")),
				decide(id(1, uint64(lot.Intn(99))), epoch, 1, api.Part{Writes: []api.Write{write(1, "v")}}), give(id(2, uint64(lot.Intn(99))), epoch, write(1, "v")), grant(7),
			}[lot.Intn(5)]
			x.Hold.Gets, x.Hold.Data = []float64{1}, []byte("data")
			said = append(said, text(h.Propose(x)))
			if spoils {
				spoil(x)
			}
		case 5, 6, 7:
			if len(under) > 0 {
				m := under[0]
				under = under[1:]
				said = append(said, text(c.l[m.To].Take(m)))
				if spoils {
					spoil(m)
				}
			}
		case 8:
			tell(h.Effects())
			tell(h.Seen())
			x, _ := h.Entry(h.At())
			tell(x)
			h.Close(9)
		}
		said = append(said, text(toldBy(h, c.d[me])))
	}
	return said
}

// The rule of memory: what was handed in, or told, may be written over. P2: hosts told the same answer the same.
func TestMemory(t *testing.T) {
	for seed := range int64(6) {
		a, b, c := life(t, seed, false), life(t, seed, false), life(t, seed, true)
		for n := range a {
			if b[n] != a[n] {
				t.Fatalf("seed %d: not the same again: %s, %s", seed, a[n], b[n])
			}
			if c[n] != a[n] {
				t.Fatalf("seed %d: something is shared: %s, want %s", seed, c[n], a[n])
			}
		}
	}
}

// The rule of memory: who makes a host may write over the plan's lists; two answers have nothing in common.
func TestSharesNothing(t *testing.T) {
	up, cuts := []uint64{3, 2}, []float64{0}
	p, _ := config.New(api.Config{Up: up, Nodes: 1, Cuts: cuts, Frame: 128, Depth: 64, Quota: much, Wide: wide, Beat: beat, Elect: elect})
	d := laid(wal.Image{H: api.Hard{Term: 1, Vote: 0}, L: entries(1, 1)})
	h := made(t, p, 0, d)
	up[0], cuts[0] = 0, 9
	leads(t, h)
	x, _ := h.Entry(1)
	y, _ := h.Entry(1)
	before := text(y)
	spoil(x)
	same(t, "Entry", text(y), before)
	z, _ := h.Entry(1)
	same(t, "Entry", text(z), before)
	propose(t, h, decide(id(1, 1), 1, 1))
	h.Sync()
	for _, e := range h.Seen() {
		spoil(e)
	}
	z, _ = h.Entry(1)
	same(t, "Entry behind Seen", text(z), before)
	m := api.Mail{Kind: mail.Hold, H: api.Hold{Puts: []float64{1}}}
	h.Send(0, m)
	h.Send(0, m)
	l := h.Sync()
	spoil(l[0])
	same(t, "two mails", l[1], host.Out{To: 0, M: m})
}
