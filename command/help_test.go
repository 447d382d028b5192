package command_test

import (
	"bytes"
	"fmt"
	"math"
	"math/rand"
	"testing"

	"dumbwaiter/api"
	"dumbwaiter/command"
	"dumbwaiter/locks"
	"dumbwaiter/number"
	"dumbwaiter/octet"
)

const top = math.MaxUint64

var (
	minusNought = math.Copysign(0, -1)
	low, high   = math.Inf(-1), math.Inf(1)
	nan         = math.NaN()
	otherNan    = math.Float64frombits(math.MaxUint64)
)

func edges() []float64 {
	return []float64{low, -math.MaxFloat64, -1, minusNought, 0, 0.5, 1, math.MaxFloat64, high, nan, otherNan}
}

// text: all that is in a command or a part of one; nil and empty lists are the same there, both noughts aren't, and NaNs are.
func text(x any) string { return fmt.Sprintf("%v", x) }

// The bytes of P13.1 by the words of the chapter, of all that is there, whether it is within the limits or not.

func layWrites(w *octet.Writer, l []api.Write) {
	w.Num(uint64(len(l)), 4)
	for _, x := range l {
		w.Num(number.Rank(x.At), 8).Flag(x.Del).Bytes(x.Val)
	}
}

func layRule(w *octet.Writer, x api.Rule) {
	w.Num(x.ID, 8).Num(uint64(x.From), 1).Num(uint64(x.To), 1)
	w.Num(number.Rank(x.Lo), 8).Num(number.Rank(x.Hi), 8).Num(x.Authority, 8).Num(uint64(x.Quota), 4)
}

func layReply(w *octet.Writer, x api.Reply) {
	w.Num(uint64(x.E), 1).Num(x.Epoch, 8).Num(x.Index, 8).Num(uint64(len(x.Gots)), 4)
	for _, g := range x.Gots {
		w.Flag(g.Has).Bytes(g.Val)
	}
	w.Num(uint64(len(x.Scans)), 4)
	for _, l := range x.Scans {
		w.Num(uint64(len(l)), 4)
		for _, p := range l {
			w.Num(number.Rank(p.At), 8).Bytes(p.Val)
		}
	}
}

func layParts(w *octet.Writer, l []api.Part) {
	w.Num(uint64(len(l)), 4)
	for _, x := range l {
		w.Num(uint64(x.Shard), 1)
		layWrites(w, x.Writes)
	}
}

// laid: a command's bytes.
func laid(c api.Command) []byte {
	w := (&octet.Writer{}).Num(uint64(c.Kind), 1)
	id := func() *octet.Writer { return w.Num(c.ID.Session, 8).Num(c.ID.Seq, 8) }
	switch c.Kind {
	case 1:
		w.Num(c.Epoch, 8)
	case 2:
		locks.Lay(w, c.Hold)
	case 3:
		layWrites(id().Num(uint64(c.E), 1).Num(c.Epoch, 8).Num(c.Index, 8), c.Writes)
	case 4:
		layParts(id().Num(c.Epoch, 8).Num(c.Shards, 2), c.Parts)
		layReply(w, c.R)
	case 5:
		id()
	case 6:
		layRule(w, c.Rule)
		w.Flag(c.On)
	case 7:
		layRule(id().Num(c.Epoch, 8), c.Rule)
		layWrites(w, c.Writes)
		layReply(w, c.R)
	}
	return w.Done()
}

// taken: are these bytes a command's, and does it make them again?
func taken(t *testing.T, what string, p []byte) api.Command {
	t.Helper()
	c, e := command.Decode(p)
	if e != api.OK {
		t.Fatalf("%s: Decode(%x) = %d", what, p, e)
	}
	if got := command.Encode(c); !bytes.Equal(got, p) {
		t.Errorf("%s: %x, then %x", what, p, got)
	}
	return c
}

// refused: are these bytes no command's?
func refused(t *testing.T, what string, p []byte) {
	t.Helper()
	if c, e := command.Decode(p); e != api.ErrForm || text(c) != text(api.Command{}) {
		t.Errorf("%s: Decode(%x) = %v, %d", what, p, c, e)
	}
}

// either: are these bytes no command's, or of one that makes them again?
func either(t *testing.T, what string, p []byte) {
	t.Helper()
	kept := bytes.Clone(p)
	c, e := command.Decode(p)
	if !bytes.Equal(p, kept) {
		t.Errorf("%s: what was handed in is changed", what)
	}
	if e == api.OK {
		taken(t, what, p)
	} else if e != api.ErrForm || text(c) != text(api.Command{}) {
		t.Errorf("%s: Decode(%x) = %v, %d", what, p, c, e)
	}
}

// agreed: is this command laid as the chapter says, and read back?
func agreed(t *testing.T, what string, c api.Command) {
	t.Helper()
	before, p := text(c), laid(c)
	if got := command.Encode(c); !bytes.Equal(got, p) {
		t.Errorf("%s: Encode(%v) = %x, want %x", what, c, got, p)
	}
	if text(c) != before {
		t.Errorf("%s: what was handed in is changed", what)
	}
	if d := taken(t, what, p); text(d) != before {
		t.Errorf("%s: %v, then %v", what, c, d)
	}
}

// list: up to so many things.
func list[T any](g *rand.Rand, most int, one func(*rand.Rand) T) []T {
	var l []T
	for range g.Intn(most + 1) {
		l = append(l, one(g))
	}
	return l
}

func aNumber(g *rand.Rand) float64 { return edges()[g.Intn(len(edges()))] }

func aSpan(g *rand.Rand) [2]float64 { return [2]float64{aNumber(g), aNumber(g)} }

func aWord(g *rand.Rand) uint64 {
	return []uint64{0, 1, 2, 255, 1 << 32, 1 << 63, top, g.Uint64()}[g.Intn(8)]
}

func anID(g *rand.Rand) api.ID { return api.ID{Session: aWord(g), Seq: aWord(g)} }

func aVal(g *rand.Rand) []byte {
	p := make([]byte, []int{0, 1, 2, g.Intn(api.MaxValue), api.MaxValue}[g.Intn(5)])
	g.Read(p)
	return p
}

func aWrite(g *rand.Rand) api.Write {
	return api.Write{At: aNumber(g), Del: g.Intn(3) == 0, Val: aVal(g)}
}

func aPart(g *rand.Rand) api.Part {
	return api.Part{Shard: g.Intn(api.MaxShards), Writes: list(g, 3, aWrite)}
}

func aGot(g *rand.Rand) api.Got { return api.Got{Has: g.Intn(2) == 0, Val: aVal(g)} }

func aPair(g *rand.Rand) api.Pair { return api.Pair{At: aNumber(g), Val: aVal(g)} }

func aScan(g *rand.Rand) []api.Pair { return list(g, 3, aPair) }

func anErrno(g *rand.Rand) api.Errno { return api.Errno(g.Intn(16)) }

func aReply(g *rand.Rand) api.Reply {
	return api.Reply{E: anErrno(g), Epoch: aWord(g), Index: aWord(g), Gots: list(g, 3, aGot), Scans: list(g, 3, aScan)}
}

func aRule(g *rand.Rand) api.Rule {
	return api.Rule{ID: aWord(g), From: g.Intn(256), To: g.Intn(256), Lo: aNumber(g), Hi: aNumber(g), Authority: aWord(g), Quota: g.Intn(1 << 32)}
}

func aHold(g *rand.Rand) api.Hold {
	return api.Hold{ID: anID(g), Epoch: aWord(g), Gets: list(g, 3, aNumber), Scans: list(g, 3, aSpan), Puts: list(g, 3, aNumber), Data: aVal(g)}
}

// aCommand: one of each kind, by lot, within the limits.
func aCommand(g *rand.Rand, kind byte) api.Command {
	c := api.Command{Kind: kind}
	switch kind {
	case command.Close:
		c.Epoch = aWord(g)
	case command.Prepare:
		c.Hold = aHold(g)
	case command.Finish:
		c.ID, c.E, c.Epoch, c.Index, c.Writes = anID(g), anErrno(g), aWord(g), aWord(g), list(g, 3, aWrite)
	case command.Decide:
		c.ID, c.Epoch, c.Shards, c.Parts, c.R = anID(g), aWord(g), uint64(g.Intn(1<<16)), list(g, api.MaxShards, aPart), aReply(g)
	case command.Forget:
		c.ID = anID(g)
	case command.Grant:
		c.Rule, c.On = aRule(g), g.Intn(2) == 0
	case command.Give:
		c.ID, c.Epoch, c.Rule, c.Writes, c.R = anID(g), aWord(g), aRule(g), list(g, 3, aWrite), aReply(g)
	}
	return c
}

// some: a command of each kind, with something in each field, and in each list.
func some() []api.Command {
	id := api.ID{Session: 7, Seq: 1 << 40}
	w := []api.Write{{At: minusNought, Val: []byte("v")}, {At: nan, Del: true}}
	r := api.Reply{E: api.ErrConflict, Epoch: 2, Index: 9, Gots: []api.Got{{Has: true, Val: []byte("g")}, {}}, Scans: [][]api.Pair{{{At: 1.5, Val: []byte("p")}}, nil}}
	rule := api.Rule{ID: 1, From: 2, To: 0, Lo: -1, Hi: high, Authority: 3, Quota: 4}
	return []api.Command{
		{Kind: command.Close, Epoch: 5},
		{Kind: command.Prepare, Hold: api.Hold{ID: id, Epoch: 4, Gets: []float64{0.5}, Scans: [][2]float64{{1, 2}}, Puts: []float64{3}, Data: []byte("d")}},
		{Kind: command.Finish, ID: id, E: api.ErrOld, Epoch: 4, Index: 8, Writes: w},
		{Kind: command.Decide, ID: id, Epoch: 4, Shards: 5, Parts: []api.Part{{Shard: 2, Writes: w}, {}}, R: r},
		{Kind: command.Forget, ID: id},
		{Kind: command.Grant, Rule: rule, On: true},
		{Kind: command.Give, ID: id, Epoch: 4, Rule: rule, Writes: w[:1], R: r},
	}
}
