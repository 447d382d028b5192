package mail_test

import (
	"bytes"
	"fmt"
	"math"
	"math/rand"
	"testing"

	"dumbwaiter/api"
	"dumbwaiter/command"
	"dumbwaiter/locks"
	"dumbwaiter/mail"
	"dumbwaiter/octet"
)

const top = math.MaxUint64

var (
	minusNought = math.Copysign(0, -1)
	low, high   = math.Inf(-1), math.Inf(1)
	nan         = math.NaN()
	otherNan    = math.Float64frombits(math.MaxUint64)
)

// text: all that is in a mail or a part of one; nil and empty lists are the same there, both noughts aren't, and NaNs are.
func text(x any) string { return fmt.Sprintf("%v", x) }

// The bytes of P17.1 by the words of the chapter, of all that is there, whether it is within the limits or not.

func layMessage(w *octet.Writer, m api.Message) {
	w.Num(uint64(m.Kind), 1).Num(uint64(m.From), 1).Num(uint64(m.To), 1)
	w.Num(m.Term, 8).Num(m.Index, 8).Num(m.LogTerm, 8).Num(m.Commit, 8).Flag(m.OK).Num(uint64(len(m.Entries)), 4)
	for _, x := range m.Entries {
		w.Num(x.Index, 8).Num(x.Term, 8).Num(uint64(x.Kind), 1).Bytes(x.Data)
	}
	w.Num(m.S.Index, 8).Num(m.S.Term, 8).Num(m.S.Voters, 8).Bytes(m.S.Data)
}

// laid: a mail's bytes.
func laid(m api.Mail) []byte {
	w := (&octet.Writer{}).Num(uint64(m.Kind), 1)
	switch m.Kind {
	case 1:
		layMessage(w, m.M)
	case 2, 6:
		locks.Lay(w, m.H)
	case 3:
		locks.Lay(w, m.H)
		command.LayReply(w, m.R)
	case 4:
		w.Bytes(command.Encode(m.C))
	case 5:
		w.Num(m.ID.Session, 8).Num(m.ID.Seq, 8)
	}
	return w.Done()
}

// short: bytes as they are told of, without what nobody would read.
func short(p []byte) string { return fmt.Sprintf("%d bytes, %x", len(p), p[:min(len(p), 400)]) }

// taken: are these bytes a mail's, and does it make them again?
func taken(t *testing.T, what string, p []byte) api.Mail {
	t.Helper()
	m, e := mail.Decode(p)
	if e != api.OK {
		t.Fatalf("%s: Decode(%s) = %d", what, short(p), e)
	}
	if got := mail.Encode(m); !bytes.Equal(got, p) {
		t.Errorf("%s: %s, then %s", what, short(p), short(got))
	}
	return m
}

// refused: are these bytes no mail's?
func refused(t *testing.T, what string, p []byte) {
	t.Helper()
	if m, e := mail.Decode(p); e != api.ErrForm || text(m) != text(api.Mail{}) {
		t.Errorf("%s: Decode(%s), %d", what, short(p), e)
	}
}

// either: are these bytes no mail's, or of one that makes them again? Tells which.
func either(t *testing.T, what string, p []byte) bool {
	t.Helper()
	kept := bytes.Clone(p)
	m, e := mail.Decode(p)
	if !bytes.Equal(p, kept) {
		t.Errorf("%s: what was handed in is changed", what)
	}
	if e == api.OK {
		taken(t, what, p)
	} else if e != api.ErrForm || text(m) != text(api.Mail{}) {
		t.Errorf("%s: Decode(%s) = %v, %d", what, short(p), m, e)
	}
	return e == api.OK
}

// agreed: is this mail laid as the chapter says, and read back?
func agreed(t *testing.T, what string, m api.Mail) {
	t.Helper()
	before, p := text(m), laid(m)
	if got := mail.Encode(m); !bytes.Equal(got, p) {
		t.Errorf("%s: Encode: %s, want %s", what, short(got), short(p))
	}
	if text(m) != before {
		t.Errorf("%s: what was handed in is changed", what)
	}
	if n := taken(t, what, p); text(n) != before {
		t.Errorf("%s: another mail is read than was laid: %s", what, short(p))
	}
}

// list: up to so many things.
func list[T any](g *rand.Rand, most int, one func(*rand.Rand) T) []T {
	var l []T
	for range g.Intn(most + 1) {
		l = append(l, one(g))
	}
	return l
}

func aNumber(g *rand.Rand) float64 {
	return []float64{low, -math.MaxFloat64, -1, minusNought, 0, 0.5, 1, math.MaxFloat64, high, nan, otherNan}[g.Intn(11)]
}

func aSpan(g *rand.Rand) [2]float64 { return [2]float64{aNumber(g), aNumber(g)} }

func aWord(g *rand.Rand) uint64 {
	return []uint64{0, 1, 2, 255, 1 << 32, 1 << 63, top, g.Uint64()}[g.Intn(8)]
}

func aByte(g *rand.Rand) byte { return []byte{0, 1, 2, 6, 7, 255, byte(g.Intn(256))}[g.Intn(7)] }

func anID(g *rand.Rand) api.ID { return api.ID{Session: aWord(g), Seq: aWord(g)} }

func aVal(g *rand.Rand) []byte {
	p := make([]byte, []int{0, 1, 2, g.Intn(api.MaxValue), api.MaxValue}[g.Intn(5)])
	g.Read(p)
	return p
}

func aHold(g *rand.Rand) api.Hold {
	return api.Hold{ID: anID(g), Epoch: aWord(g), Gets: list(g, 3, aNumber), Scans: list(g, 3, aSpan), Puts: list(g, 3, aNumber), Data: aVal(g)}
}

func aWrite(g *rand.Rand) api.Write {
	return api.Write{At: aNumber(g), Del: g.Intn(3) == 0, Val: aVal(g)}
}

func aGot(g *rand.Rand) api.Got { return api.Got{Has: g.Intn(2) == 0, Val: aVal(g)} }

func aPair(g *rand.Rand) api.Pair { return api.Pair{At: aNumber(g), Val: aVal(g)} }

func aScan(g *rand.Rand) []api.Pair { return list(g, 3, aPair) }

func aReply(g *rand.Rand) api.Reply {
	return api.Reply{E: api.Errno(g.Intn(16)), Epoch: aWord(g), Index: aWord(g), Gots: list(g, 3, aGot), Scans: list(g, 3, aScan)}
}

func aFinish(g *rand.Rand) api.Command {
	return api.Command{Kind: command.Finish, ID: anID(g), E: api.Errno(g.Intn(16)), Epoch: aWord(g), Index: aWord(g), Writes: list(g, 3, aWrite)}
}

func anEntry(g *rand.Rand) api.Entry {
	return api.Entry{Index: aWord(g), Term: aWord(g), Kind: aByte(g), Data: aVal(g)}
}

func aSnap(g *rand.Rand) api.Snap {
	return api.Snap{Index: aWord(g), Term: aWord(g), Voters: aWord(g), Data: aVal(g)}
}

func aMessage(g *rand.Rand) api.Message {
	m := api.Message{Kind: aByte(g), From: int(aByte(g)), To: int(aByte(g)), Term: aWord(g), Index: aWord(g), LogTerm: aWord(g), Commit: aWord(g), OK: g.Intn(2) == 0, Entries: list(g, 4, anEntry)}
	if g.Intn(2) == 0 {
		m.S = aSnap(g)
	}
	return m
}

// aMail: one of each kind, by lot, within the limits.
func aMail(g *rand.Rand, kind byte) api.Mail {
	m := api.Mail{Kind: kind}
	switch kind {
	case mail.Group:
		m.M = aMessage(g)
	case mail.Hold, mail.Ask:
		m.H = aHold(g)
	case mail.Voted:
		m.H, m.R = aHold(g), aReply(g)
	case mail.Finish:
		m.C = aFinish(g)
	case mail.Done:
		m.ID = anID(g)
	}
	return m
}

// whole: a mail with something in each field, and in each list.
func whole() api.Mail {
	id := api.ID{Session: 0x0102030405060708, Seq: 9}
	return api.Mail{
		M: api.Message{
			Kind: api.Append, From: 2, To: 255, Term: 256, Index: 1<<63 + 2, LogTerm: 3, Commit: 4, OK: true,
			Entries: []api.Entry{{Index: 5, Term: 256, Kind: api.Voters, Data: []byte("hi")}, {}},
			S:       api.Snap{Index: 6, Term: 7, Voters: top, Data: []byte("abc")},
		},
		H:  api.Hold{ID: id, Epoch: 256, Gets: []float64{1}, Scans: [][2]float64{{low, nan}}, Puts: []float64{minusNought}, Data: []byte("\x01z")},
		ID: id,
		R:  api.Reply{E: api.ErrConflict, Epoch: 256, Index: 1<<63 + 2, Gots: []api.Got{{Has: true, Val: []byte("g")}, {}}, Scans: [][]api.Pair{{{At: nan, Val: []byte("ab")}}, nil}},
		C:  api.Command{Kind: command.Finish, ID: id, E: api.ErrOld, Epoch: 256, Index: 1<<63 + 2, Writes: []api.Write{{At: 1, Val: []byte("hi")}, {At: minusNought, Del: true}}},
	}
}

// of: of a mail what its kind names, as that kind.
func of(m api.Mail, kind byte) api.Mail {
	switch kind {
	case mail.Group:
		return api.Mail{Kind: kind, M: m.M}
	case mail.Hold, mail.Ask:
		return api.Mail{Kind: kind, H: m.H}
	case mail.Voted:
		return api.Mail{Kind: kind, H: m.H, R: m.R}
	case mail.Finish:
		return api.Mail{Kind: kind, C: m.C}
	}
	return api.Mail{Kind: kind, ID: m.ID}
}

// some: a mail of each kind, with something in each field that it names, and in each list.
func some() []api.Mail {
	var l []api.Mail
	for kind := mail.Group; kind <= mail.Ask; kind++ {
		l = append(l, of(whole(), kind))
	}
	return l
}

func group(m api.Message) api.Mail { return api.Mail{Kind: mail.Group, M: m} }

func val(n int) []byte { return bytes.Repeat([]byte{'v'}, n) }
