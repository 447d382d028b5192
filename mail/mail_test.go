package mail_test

import (
	"bytes"
	"fmt"
	"math"
	"math/rand"
	"testing"

	"dumbwaiter/api"
	"dumbwaiter/command"
	"dumbwaiter/garble"
	"dumbwaiter/mail"
	"dumbwaiter/number"
	"dumbwaiter/octet"
)

// P17.1: the kinds by their numbers.
func TestKinds(t *testing.T) {
	for n, kind := range []byte{mail.Group, mail.Hold, mail.Voted, mail.Finish, mail.Done, mail.Ask} {
		if int(kind) != n+1 {
			t.Errorf("the kind %d is %d", n+1, kind)
		}
	}
}

// P17.1: the chapter's example.
func TestExample(t *testing.T) {
	got := mail.Encode(api.Mail{Kind: mail.Done, ID: api.ID{Session: 1, Seq: 2}})
	if want := "\x05" + "\x01\x00\x00\x00\x00\x00\x00\x00" + "\x02\x00\x00\x00\x00\x00\x00\x00"; string(got) != want {
		t.Errorf("%x, want %x", got, want)
	}
}

// Pieces of bytes that are told by hand.
const (
	none8      = "\x00\x00\x00\x00\x00\x00\x00\x00"
	none4      = "\x00\x00\x00\x00"
	idBytes    = "\x08\x07\x06\x05\x04\x03\x02\x01" + "\x09\x00\x00\x00\x00\x00\x00\x00"
	epochBytes = "\x00\x01\x00\x00\x00\x00\x00\x00"
	indexBytes = "\x02\x00\x00\x00\x00\x00\x00\x80"
	oneBytes   = "\x00\x00\x00\x00\x00\x00\xf0\xbf" // the Rank of 1
	minusBytes = "\xff\xff\xff\xff\xff\xff\xff\x7f" // of -0
	nanBytes   = "\xff\xff\xff\xff\xff\xff\xff\xff"
	lowBytes   = "\xff\xff\xff\xff\xff\xff\x0f\x00" // of the least infinity
	holdBytes  = idBytes + epochBytes + "\x01\x00\x00\x00" + oneBytes + "\x01\x00\x00\x00" + lowBytes + nanBytes + "\x01\x00\x00\x00" + minusBytes + "\x02\x00\x00\x00\x01z"
	replyBytes = "\x08" + epochBytes + indexBytes +
		"\x02\x00\x00\x00" + "\x01" + "\x01\x00\x00\x00g" + "\x00" + none4 +
		"\x02\x00\x00\x00" + "\x01\x00\x00\x00" + nanBytes + "\x02\x00\x00\x00ab" + none4
	writeBytes   = "\x02\x00\x00\x00" + oneBytes + "\x00" + "\x02\x00\x00\x00hi" + minusBytes + "\x01" + none4
	messageBytes = "\x05\x02\xff" + epochBytes + indexBytes + "\x03\x00\x00\x00\x00\x00\x00\x00" + "\x04\x00\x00\x00\x00\x00\x00\x00" + "\x01" +
		"\x02\x00\x00\x00" + "\x05\x00\x00\x00\x00\x00\x00\x00" + epochBytes + "\x01" + "\x02\x00\x00\x00hi" + none8 + none8 + "\x00" + none4 +
		"\x06\x00\x00\x00\x00\x00\x00\x00" + "\x07\x00\x00\x00\x00\x00\x00\x00" + "\xff\xff\xff\xff\xff\xff\xff\xff" + "\x03\x00\x00\x00abc"
)

// P17.1: the bytes of a mail of each kind, one by one, and back.
func TestBytes(t *testing.T) {
	m := whole()
	for want, n := range map[string]api.Mail{
		"\x01" + messageBytes: {Kind: mail.Group, M: m.M},
		"\x01" + "\x01\x00\x00" + none8 + none8 + none8 + none8 + "\x00" + none4 + none8 + none8 + none8 + none4: {Kind: mail.Group, M: api.Message{Kind: api.Pre}},
		"\x02" + holdBytes:              {Kind: mail.Hold, H: m.H},
		"\x03" + holdBytes + replyBytes: {Kind: mail.Voted, H: m.H, R: m.R},
		"\x04" + "\x42\x00\x00\x00" + "\x03" + idBytes + "\x0a" + epochBytes + indexBytes + writeBytes: {Kind: mail.Finish, C: m.C},
		"\x04" + "\x26\x00\x00\x00" + "\x03" + idBytes + "\x00" + epochBytes + indexBytes + none4:      {Kind: mail.Finish, C: api.Command{Kind: command.Finish, ID: m.ID, Epoch: 256, Index: 1<<63 + 2}},
		"\x05" + idBytes:   {Kind: mail.Done, ID: m.ID},
		"\x06" + holdBytes: {Kind: mail.Ask, H: m.H},
	} {
		if got := mail.Encode(n); string(got) != want {
			t.Errorf("kind %d: %x, want %x", n.Kind, got, want)
		}
		if got := taken(t, "by hand", []byte(want)); text(got) != text(n) {
			t.Errorf("kind %d: %v, want %v", n.Kind, got, n)
		}
	}
}

// P17.1: a message of each kind, with no entries, one, and many, with a snapshot and without, and of each answer.
func TestGroup(t *testing.T) {
	many := make([]api.Entry, 300)
	for n := range many {
		many[n] = api.Entry{Index: uint64(n) + 5, Term: uint64(n)/7 + 1, Kind: byte(n % 2), Data: val(n % 9)}
	}
	for kind := api.Pre; kind <= api.Install; kind++ {
		for _, n := range []int{0, 1, 2, 16, 17, len(many)} {
			for _, s := range []api.Snap{{}, {Index: 4, Term: 1, Voters: 7, Data: []byte("state")}, {Voters: 1}} {
				for _, ok := range []bool{false, true} {
					agreed(t, fmt.Sprint("message ", kind, ", entries ", n), group(api.Message{Kind: kind, From: 1, To: 2, Term: 3, Index: 4, LogTerm: 2, Commit: 4, OK: ok, Entries: many[:n], S: s}))
				}
			}
		}
	}
}

// P17.1: what a message's fields, an entry's and a snapshot's may be, from the least to the greatest; what no group tells is read as it is.
func TestGroupFields(t *testing.T) {
	for n := range 256 {
		agreed(t, "Kind", group(api.Message{Kind: byte(n)}))
		agreed(t, "From and To", group(api.Message{From: n, To: 255 - n}))
		agreed(t, "an entry's Kind", group(api.Message{Entries: []api.Entry{{Kind: byte(n)}}}))
	}
	for _, n := range []uint64{0, 1, 255, 256, 1 << 32, 1 << 63, top - 1, top} {
		agreed(t, "Term, Index", group(api.Message{Term: n, Index: n / 2}))
		agreed(t, "LogTerm, Commit", group(api.Message{LogTerm: n, Commit: n / 2}))
		agreed(t, "an entry's", group(api.Message{Entries: []api.Entry{{Index: n, Term: n / 2}, {Index: n / 3}}}))
		agreed(t, "a snapshot's", group(api.Message{S: api.Snap{Index: n, Term: n / 2, Voters: n / 3}}))
		agreed(t, "the ID", api.Mail{Kind: mail.Done, ID: api.ID{Session: n, Seq: n / 2}})
	}
}

// P17.1: From and To have one byte each: what is beyond it isn't laid, and moves nothing else.
func TestBeyondAByte(t *testing.T) {
	m := whole()
	m.Kind, m.M.From, m.M.To = mail.Group, -1, 256+7
	n := taken(t, "beyond a byte", mail.Encode(m))
	m = of(m, mail.Group)
	m.M.From, m.M.To = 255, 7
	if text(n) != text(m) {
		t.Errorf("%v, want %v", n, m)
	}
}

// P17.1: a vote that is OK, with what was read, and one that isn't.
func TestVoted(t *testing.T) {
	m := of(whole(), mail.Voted)
	for e := api.OK; e <= api.ErrLattice; e++ {
		m.R.E = e
		agreed(t, "with what was read", m)
		agreed(t, "the error alone", api.Mail{Kind: mail.Voted, H: m.H, R: api.Reply{E: e}})
	}
	agreed(t, "nothing", api.Mail{Kind: mail.Voted})
}

// P17.1: an end that is OK, with writes and without, and one that isn't.
func TestFinish(t *testing.T) {
	m := of(whole(), mail.Finish)
	for e := api.OK; e <= api.ErrLattice; e++ {
		for n := range len(m.C.Writes) + 1 {
			c := m.C
			c.E, c.Writes = e, c.Writes[:n]
			agreed(t, "an end", api.Mail{Kind: mail.Finish, C: c})
		}
	}
	agreed(t, "nothing", api.Mail{Kind: mail.Finish, C: api.Command{Kind: command.Finish}})
}

// P17.1: a Finish whose C is of another kind, or of none, comes from no mail.
func TestFinishOfOtherKinds(t *testing.T) {
	for kind := range 256 {
		c := whole().C
		c.Kind, c.Hold, c.R = byte(kind), whole().H, whole().R
		m := api.Mail{Kind: mail.Finish, C: c}
		for what, p := range map[string][]byte{"Encode": mail.Encode(m), "by the words": laid(m)} {
			if c.Kind == command.Finish {
				taken(t, what, p)
				continue
			}
			refused(t, fmt.Sprint(what, ", kind ", kind), p)
		}
	}
	for _, c := range []api.Command{{Kind: command.Close, Epoch: 1}, {Kind: command.Forget, ID: whole().ID}, {Kind: command.Prepare}, {Kind: command.Decide}, {Kind: command.Grant}, {Kind: command.Give}} {
		if _, e := command.Decode(command.Encode(c)); e != api.OK {
			t.Errorf("kind %d: it is no command", c.Kind)
		}
		refused(t, "a right command of another kind", laid(api.Mail{Kind: mail.Finish, C: c}))
	}
}

// P17.1: the bytes of C are just a command's: none shorter, none longer, none wrong within.
func TestFinishOfOtherBytes(t *testing.T) {
	framed := func(p []byte) []byte { return (&octet.Writer{}).Num(uint64(mail.Finish), 1).Bytes(p).Done() }
	p := command.Encode(whole().C)
	taken(t, "whole", framed(p))
	for n := range p {
		refused(t, "shorter", framed(p[:n]))
	}
	refused(t, "longer", framed(append(bytes.Clone(p), 0)))
	refused(t, "twice", framed(append(bytes.Clone(p), p...)))
	long := append(bytes.Clone(p), make([]byte, api.MaxRecord)...)
	refused(t, "far longer", framed(long))
	p[len(p)-5] = 2
	refused(t, "a Flag that is none", framed(p))
}

// P17.1: just what the kind names is laid, and all else is 0 when it is read.
func TestOtherFields(t *testing.T) {
	for kind := mail.Group; kind <= mail.Ask; kind++ {
		all := whole()
		all.Kind = kind
		m := of(all, kind)
		if p := mail.Encode(all); !bytes.Equal(p, laid(m)) {
			t.Errorf("kind %d: %x", kind, p)
		} else if got := taken(t, "all", p); text(got) != text(m) {
			t.Errorf("kind %d: %v, want %v", kind, got, m)
		}
	}
}

// P17.1: of each kind one whose lists are empty, and one that has something everywhere.
func TestEmptyAndFull(t *testing.T) {
	for _, m := range some() {
		agreed(t, "something in it", m)
		empty := api.Mail{Kind: m.Kind}
		if m.Kind == mail.Finish {
			empty.C.Kind = command.Finish
		}
		agreed(t, "nothing in it", empty)
	}
	agreed(t, "empty lists", api.Mail{Kind: mail.Voted, H: api.Hold{Gets: []float64{}, Scans: [][2]float64{}, Puts: []float64{}, Data: []byte{}}, R: api.Reply{Gots: []api.Got{}, Scans: [][]api.Pair{{}}}})
	agreed(t, "empty Data", group(api.Message{Entries: []api.Entry{{Data: []byte{}}}, S: api.Snap{Data: []byte{}}}))
}

// limits: mails that have just so many of something, and so many more, by what that is.
func limits(more int) map[string][]api.Mail {
	held := func(h api.Hold) []api.Mail {
		return []api.Mail{{Kind: mail.Hold, H: h}, {Kind: mail.Voted, H: h}, {Kind: mail.Ask, H: h}}
	}
	told := func(r api.Reply) []api.Mail { return []api.Mail{{Kind: mail.Voted, R: r}} }
	wrote := func(l ...api.Write) []api.Mail {
		return []api.Mail{{Kind: mail.Finish, C: api.Command{Kind: command.Finish, Writes: l}}}
	}
	return map[string][]api.Mail{
		"Gets":          held(api.Hold{Gets: make([]float64, api.MaxOps+more)}),
		"spans":         held(api.Hold{Scans: make([][2]float64, api.MaxOps+more)}),
		"Puts":          held(api.Hold{Puts: make([]float64, api.MaxOps+more)}),
		"Data":          held(api.Hold{Data: val(api.MaxValue + 1 + more)}),
		"Gots":          told(api.Reply{Gots: make([]api.Got, api.MaxOps+more)}),
		"a Got's Val":   told(api.Reply{Gots: []api.Got{{}, {Has: true, Val: val(api.MaxValue + more)}}}),
		"Scans":         told(api.Reply{Scans: make([][]api.Pair, api.MaxOps+more)}),
		"pairs":         told(api.Reply{Scans: [][]api.Pair{nil, make([]api.Pair, api.MaxScan+more)}}),
		"a pair's Val":  told(api.Reply{Scans: [][]api.Pair{{{}, {Val: val(api.MaxValue + more)}}}}),
		"writes":        wrote(make([]api.Write, api.MaxOps+more)...),
		"a write's Val": wrote(api.Write{}, api.Write{Val: val(api.MaxValue + more)}),
	}
}

// most: a hold, an answer and writes with as much of all as their layers' limits allow.
func most() api.Mail {
	m := whole()
	m.H = api.Hold{ID: m.ID, Epoch: top, Gets: make([]float64, api.MaxOps), Scans: make([][2]float64, api.MaxOps), Puts: make([]float64, api.MaxOps), Data: val(api.MaxValue + 1)}
	m.R = api.Reply{Epoch: top, Index: top}
	m.C.Writes = nil
	for n := range api.MaxOps {
		m.R.Gots = append(m.R.Gots, api.Got{Has: true, Val: val(api.MaxValue)})
		m.R.Scans = append(m.R.Scans, nil)
		for range api.MaxScan {
			m.R.Scans[n] = append(m.R.Scans[n], api.Pair{At: float64(n), Val: val(api.MaxValue)})
		}
		m.C.Writes = append(m.C.Writes, api.Write{At: float64(n), Val: val(api.MaxValue)})
	}
	return m
}

// P17.1: within the limits of a hold's, an answer's and a command's layers: just so many, and one more.
func TestLimits(t *testing.T) {
	for kind := mail.Hold; kind <= mail.Ask; kind++ {
		agreed(t, "the most of all", of(most(), kind))
	}
	for what, l := range limits(0) {
		for _, m := range l {
			agreed(t, what, m)
		}
	}
	for _, more := range []int{1, 2, 1 << 16} {
		for what, l := range limits(more) {
			for _, m := range l {
				refused(t, fmt.Sprint(what, ", ", more, " more"), laid(m))
			}
		}
	}
}

// P17.1: MaxRecord bytes of each Data, of an entry and of a snapshot, and one more.
func TestData(t *testing.T) {
	at, more := val(api.MaxRecord), val(api.MaxRecord+1)
	agreed(t, "an entry", group(api.Message{Entries: []api.Entry{{Data: at}}}))
	agreed(t, "each entry", group(api.Message{Entries: []api.Entry{{Data: at}, {}, {Data: at}}}))
	agreed(t, "a snapshot", group(api.Message{S: api.Snap{Data: at}}))
	agreed(t, "both", group(api.Message{Entries: []api.Entry{{Data: at}}, S: api.Snap{Data: at}}))
	refused(t, "an entry", laid(group(api.Message{Entries: []api.Entry{{Data: more}}})))
	refused(t, "the last entry", laid(group(api.Message{Entries: []api.Entry{{Data: at}, {Data: more}}})))
	refused(t, "a snapshot", laid(group(api.Message{S: api.Snap{Data: more}})))
	refused(t, "both", laid(group(api.Message{Entries: []api.Entry{{Data: more}}, S: api.Snap{Data: more}})))
}

// P17.1: no bytes, a Kind that is none, whatever stands behind; and what is no mail has no bytes of one.
func TestKindsOfNone(t *testing.T) {
	refused(t, "nil", nil)
	refused(t, "no bytes", []byte{})
	for kind := range 256 {
		refused(t, "a Kind alone", []byte{byte(kind)})
		if byte(kind) >= mail.Group && byte(kind) <= mail.Ask {
			continue
		}
		m := whole()
		m.Kind = byte(kind)
		if p := mail.Encode(m); len(p) != 0 {
			t.Errorf("kind %d: %x", kind, p)
		}
		for _, m := range some() {
			p := laid(m)
			p[0] = byte(kind)
			refused(t, "a Kind that is none", p)
		}
	}
}

// P17.1: each shorter part of right bytes, and bytes with more behind them.
func TestShorterAndLonger(t *testing.T) {
	for _, m := range some() {
		p := laid(m)
		for n := range p {
			refused(t, "shorter", p[:n:n])
			either(t, "its end alone", p[n+1:])
		}
		for b := range 256 {
			refused(t, "one more", append(bytes.Clone(p), byte(b)))
		}
		refused(t, "twice", append(bytes.Clone(p), p...))
	}
}

// P17.1: one byte another one: then they are of no mail, or of another one, that makes them.
func TestTurned(t *testing.T) {
	for _, m := range some() {
		for p := range garble.Turned(laid(m)) {
			if either(t, "turned", p) {
				if n, _ := mail.Decode(p); text(n) == text(m) {
					t.Errorf("%v of other bytes: %x", n, p)
				}
			}
		}
	}
}

// wrongAt: right bytes, but for what stands at a place.
func wrongAt(m api.Mail, at int, b ...byte) []byte {
	p := laid(m)
	copy(p[at:], b)
	return p
}

// P17.1: Flags that are 0, 1, and none: of a message, of what was read, and of a write.
func TestFlags(t *testing.T) {
	voted := api.Mail{Kind: mail.Voted, R: api.Reply{Gots: []api.Got{{Has: true}}}}
	finish := api.Mail{Kind: mail.Finish, C: api.Command{Kind: command.Finish, Writes: []api.Write{{At: 1}}}}
	for b := range 256 {
		for what, p := range map[string][]byte{
			"OK":  wrongAt(group(api.Message{}), 1+3+32, byte(b)),
			"Has": wrongAt(voted, 1+40+17+4, byte(b)),
			"Del": wrongAt(finish, 1+4+38+8, byte(b)),
		} {
			if b > 1 {
				refused(t, what, p)
				continue
			}
			m := taken(t, what, p)
			got := m.M.OK || len(m.R.Gots) > 0 && m.R.Gots[0].Has || len(m.C.Writes) > 0 && m.C.Writes[0].Del
			if got != (b == 1) {
				t.Errorf("%s: %d is %v", what, b, got)
			}
		}
	}
}

// P17.1: a Rank that is none, at each place where one stands.
func TestRanksOfNone(t *testing.T) {
	h := api.Hold{Gets: make([]float64, 1), Scans: make([][2]float64, 1), Puts: make([]float64, 1)}
	voted := api.Mail{Kind: mail.Voted, R: api.Reply{Scans: [][]api.Pair{make([]api.Pair, 1)}}}
	finish := api.Mail{Kind: mail.Finish, C: api.Command{Kind: command.Finish, Writes: make([]api.Write, 2)}}
	first, last := number.Rank(low), number.Rank(high)
	for rank, none := range map[uint64]bool{0: true, 1: true, first - 1: true, first: false, last: false, last + 1: true, top - 1: true, top: false} {
		b := (&octet.Writer{}).Num(rank, 8).Done()
		all := map[string][]byte{
			"a pair":       wrongAt(voted, 1+40+17+4+4+4, b...),
			"a write":      wrongAt(finish, 1+4+38, b...),
			"a write more": wrongAt(finish, 1+4+38+13, b...),
		}
		for _, kind := range []byte{mail.Hold, mail.Voted, mail.Ask} {
			for what, at := range map[string]int{"a Get": 29, "a span's From": 29 + 8 + 4, "a span's To": 29 + 8 + 4 + 8, "a Put": 29 + 8 + 4 + 16 + 4} {
				all[fmt.Sprint(what, " of ", kind)] = wrongAt(api.Mail{Kind: kind, H: h}, at, b...)
			}
		}
		for what, p := range all {
			if none {
				refused(t, what, p)
			} else {
				taken(t, what, p)
			}
		}
	}
}

// P17.1: counts and lengths that tell of more, or less, than there is, or of far too much.
func TestCounts(t *testing.T) {
	m := group(api.Message{Entries: []api.Entry{{Data: []byte("x")}}, S: api.Snap{Data: []byte("s")}})
	for what, at := range map[string]int{"Entries": 37, "an entry's Data": 37 + 4 + 17, "a snapshot's Data": 37 + 4 + 22 + 24} {
		taken(t, what, wrongAt(m, at, 1, 0, 0, 0))
		for _, b := range [][]byte{{0, 0, 0, 0}, {2, 0, 0, 0}, {0, 1, 0, 0}, {0, 0, 0, 128}, {255, 255, 255, 255}} {
			refused(t, what, wrongAt(m, at, b...))
		}
	}
	none := group(api.Message{})
	for n := uint64(1); n <= math.MaxUint32; n *= 2 {
		b := (&octet.Writer{}).Num(n, 4).Done()
		refused(t, "more entries than there are", wrongAt(none, 37, b...))
	}
	for what, m := range map[string]api.Mail{"no bytes of C": {Kind: mail.Finish}, "bytes of C": of(whole(), mail.Finish)} {
		for _, n := range []uint64{0, 1, 255, 1 << 31, math.MaxUint32} {
			b := (&octet.Writer{}).Num(n, 4).Done()
			refused(t, what, wrongAt(m, 1, b...))
		}
	}
}

// P17.1, P2: by lot: Encode lays what the chapter says, Decode of it is the mail, and unlike mails have unlike bytes.
func TestByLot(t *testing.T) {
	g := rand.New(rand.NewSource(17))
	seen := map[string]string{}
	for n := range 12000 {
		m := aMail(g, mail.Group+byte(n%6))
		agreed(t, fmt.Sprint("mail ", n), m)
		p, told := string(laid(m)), text(m)
		if first, was := seen[p]; was && first != told {
			t.Fatalf("%s and %s have the same bytes", first, told)
		}
		seen[p] = told
	}
}

// P17.1, P1: bytes by lot: Decode ends, and what it takes makes the same bytes again.
func TestDecodeByLot(t *testing.T) {
	g := rand.New(rand.NewSource(171))
	took := 0
	for n := range 30000 {
		if either(t, fmt.Sprint("bytes ", n), garble.ByLot(laid(aMail(g, mail.Group+byte(n%6))), g.Intn)) {
			took++
		}
		p := make([]byte, g.Intn(120))
		for i := range p {
			p[i] = aByte(g)
		}
		either(t, fmt.Sprint("any bytes ", n), p)
	}
	if took < 1000 {
		t.Errorf("the lot is too even: %d", took)
	}
}

// P1: no call panics, whatever stands in a mail.
func TestNoPanic(t *testing.T) {
	for kind := range 256 {
		m := whole()
		m.Kind, m.M.From, m.M.To, m.R.E, m.C.E = byte(kind), math.MinInt, math.MaxInt, -1, math.MinInt
		p := mail.Encode(m)
		either(t, "beyond what may be", p)
		if !bytes.Equal(mail.Encode(m), p) {
			t.Errorf("kind %d: other bytes the next time", kind)
		}
		either(t, "nothing", mail.Encode(api.Mail{Kind: byte(kind)}))
	}
}

// What was handed in, and what was told, may be written over: nothing is shared.
func TestMemory(t *testing.T) {
	for _, m := range some() {
		p := mail.Encode(m)
		n, before := taken(t, "whole", p), text(m)
		for i := range p {
			p[i] ^= 0xff
		}
		if text(n) != before || text(m) != before {
			t.Errorf("kind %d hangs on its bytes", m.Kind)
		}
		p = mail.Encode(m)
		spoil(m)
		spoil(n)
		if text(taken(t, "written over", p)) != before || text(m) == before && m.Kind != mail.Done {
			t.Errorf("kind %d: its bytes hang on it", m.Kind)
		}
	}
}

// What is told has lists of its own each: one that grows, or is written over, moves no other, and not its bytes.
func TestListsOfTheirOwn(t *testing.T) {
	p := mail.Encode(group(api.Message{Entries: []api.Entry{{Data: []byte("ab")}, {Data: []byte("cd")}}, S: api.Snap{Data: []byte("ef")}}))
	kept := bytes.Clone(p)
	m := taken(t, "whole", p).M
	for _, data := range [][]byte{m.Entries[0].Data, m.Entries[1].Data, m.S.Data} {
		before := text(m)
		_ = append(data, "growing behind its end"...)
		if text(m) != before || !bytes.Equal(p, kept) {
			t.Errorf("%s grows into something", data)
		}
	}
	copy(m.Entries[0].Data, "--")
	if string(m.Entries[1].Data) != "cd" || string(m.S.Data) != "ef" || !bytes.Equal(p, kept) {
		t.Error("what is told shares memory")
	}
}

// spoil: all lists of a mail are written over, and what stands behind them too.
func spoil(m api.Mail) {
	turn := func(p []byte) {
		for i := range p[:cap(p)] {
			p[:cap(p)][i] ^= 0xff
		}
	}
	for i := range m.M.Entries {
		turn(m.M.Entries[i].Data)
		m.M.Entries[i].Index++
	}
	turn(m.M.S.Data)
	for i := range m.H.Gets {
		m.H.Gets[i]++
	}
	turn(m.H.Data)
	for i := range m.R.Gots {
		turn(m.R.Gots[i].Val)
	}
	for _, l := range m.R.Scans {
		for i := range l {
			turn(l[i].Val)
			l[i].At = 77
		}
	}
	for i := range m.C.Writes {
		turn(m.C.Writes[i].Val)
		m.C.Writes[i].At++
	}
}
