package command_test

import (
	"bytes"
	"fmt"
	"math"
	"math/rand"
	"testing"

	"dumbwaiter/api"
	"dumbwaiter/command"
	"dumbwaiter/garble"
	"dumbwaiter/number"
	"dumbwaiter/octet"
)

// P13.1: the kinds by their numbers.
func TestKinds(t *testing.T) {
	for n, kind := range []byte{command.Close, command.Prepare, command.Finish, command.Decide, command.Forget, command.Grant, command.Give} {
		if int(kind) != n+1 {
			t.Errorf("the kind %d is %d", n+1, kind)
		}
	}
}

// Pieces of bytes that are told by hand.
const (
	idBytes    = "\x08\x07\x06\x05\x04\x03\x02\x01" + "\x09\x00\x00\x00\x00\x00\x00\x00"
	epochBytes = "\x00\x01\x00\x00\x00\x00\x00\x00"
	indexBytes = "\x02\x00\x00\x00\x00\x00\x00\x80"
	oneBytes   = "\x00\x00\x00\x00\x00\x00\xf0\xbf" // the Rank of 1
	minusBytes = "\xff\xff\xff\xff\xff\xff\xff\x7f" // of -0
	nanBytes   = "\xff\xff\xff\xff\xff\xff\xff\xff"
	lowBytes   = "\xff\xff\xff\xff\xff\xff\x0f\x00" // of the least infinity
	zeroCount  = "\x00\x00\x00\x00"
	writeBytes = "\x02\x00\x00\x00" + oneBytes + "\x00" + "\x02\x00\x00\x00hi" + minusBytes + "\x01" + zeroCount
	ruleBytes  = "\x05\x00\x00\x00\x00\x00\x00\x00" + "\x0f\x03" + lowBytes + nanBytes + "\x06\x00\x00\x00\x00\x00\x00\x00" + "\x00\x00\x01\x00"
	replyBytes = "\x0d" + epochBytes + indexBytes +
		"\x02\x00\x00\x00" + "\x01" + "\x01\x00\x00\x00g" + "\x00" + zeroCount +
		"\x02\x00\x00\x00" + "\x01\x00\x00\x00" + nanBytes + "\x02\x00\x00\x00ab" + zeroCount
)

// P13.1: the bytes of a command of each kind, one by one; and P13.2: they are read back.
func TestBytes(t *testing.T) {
	id := api.ID{Session: 0x0102030405060708, Seq: 9}
	epoch, index := uint64(256), uint64(1<<63+2)
	writes := []api.Write{{At: 1, Val: []byte("hi")}, {At: minusNought, Del: true}}
	rule := api.Rule{ID: 5, From: 15, To: 3, Lo: low, Hi: nan, Authority: 6, Quota: 65536}
	reply := api.Reply{E: api.ErrQuota, Epoch: epoch, Index: index, Gots: []api.Got{{Has: true, Val: []byte("g")}, {}}, Scans: [][]api.Pair{{{At: otherNan, Val: []byte("ab")}}, nil}}
	hold := api.Hold{ID: id, Epoch: epoch, Gets: []float64{1}, Scans: [][2]float64{{low, nan}}, Puts: []float64{minusNought}, Data: []byte("\x01z")}
	for want, c := range map[string]api.Command{
		"\x01\x03\x00\x00\x00\x00\x00\x00\x00": {Kind: command.Close, Epoch: 3},
		"\x02" + idBytes + epochBytes + "\x01\x00\x00\x00" + oneBytes + "\x01\x00\x00\x00" + lowBytes + nanBytes + "\x01\x00\x00\x00" + minusBytes + "\x02\x00\x00\x00\x01z": {Kind: command.Prepare, Hold: hold},
		"\x03" + idBytes + "\x0a" + epochBytes + indexBytes + writeBytes:                                                        {Kind: command.Finish, ID: id, E: api.ErrOld, Epoch: epoch, Index: index, Writes: writes},
		"\x04" + idBytes + epochBytes + "\x81\x80" + "\x02\x00\x00\x00" + "\x07" + writeBytes + "\x00" + zeroCount + replyBytes: {Kind: command.Decide, ID: id, Epoch: epoch, Shards: 0x8081, Parts: []api.Part{{Shard: 7, Writes: writes}, {}}, R: reply},
		"\x05" + idBytes:            {Kind: command.Forget, ID: id},
		"\x06" + ruleBytes + "\x01": {Kind: command.Grant, Rule: rule, On: true},
		"\x06" + ruleBytes + "\x00": {Kind: command.Grant, Rule: rule},
		"\x07" + idBytes + epochBytes + ruleBytes + writeBytes + replyBytes: {Kind: command.Give, ID: id, Epoch: epoch, Rule: rule, Writes: writes, R: reply},
	} {
		if got := command.Encode(c); string(got) != want {
			t.Errorf("kind %d: %x, want %x", c.Kind, got, want)
		}
		if d := taken(t, "by hand", []byte(want)); text(d) != text(c) {
			t.Errorf("kind %d: %v, want %v", c.Kind, d, c)
		}
	}
}

// P13.1: of a reply alone, among other bytes; P13.2: and back.
func TestReply(t *testing.T) {
	l := []api.Reply{
		{E: api.ErrQuota, Epoch: 256, Index: 1<<63 + 2, Gots: []api.Got{{Has: true, Val: []byte("g")}, {}}, Scans: [][]api.Pair{{{At: nan, Val: []byte("ab")}}, nil}},
		{},
		{E: api.ErrLattice, Gots: make([]api.Got, api.MaxOps), Scans: make([][]api.Pair, api.MaxOps)},
	}
	w := (&octet.Writer{}).Num(7, 1)
	for _, x := range l {
		kept := text(x)
		command.LayReply(w, x)
		if text(x) != kept {
			t.Error("what was handed in is changed")
		}
	}
	p := w.Num(8, 1).Done()
	if want := "\x07" + replyBytes; string(p[:len(want)]) != want {
		t.Errorf("%x, want %x", p[:len(want)], want)
	}
	r := octet.Read(p)
	r.Num(1)
	for _, x := range l {
		if got := command.ReadReply(r); text(got) != text(x) {
			t.Errorf("%v, want %v", got, x)
		}
	}
	if r.Num(1) != 8 || !r.End() {
		t.Error("ReadReply takes more, or less, than LayReply laid")
	}
}

// P13.1, P13.2: of each kind one whose lists are empty, and one that has something everywhere.
func TestEmptyAndFull(t *testing.T) {
	for kind := command.Close; kind <= command.Give; kind++ {
		agreed(t, "nothing in it", api.Command{Kind: kind})
	}
	for _, c := range some() {
		agreed(t, "something in it", c)
	}
	agreed(t, "empty lists", api.Command{Kind: command.Give, Writes: []api.Write{{Val: []byte{}}}, R: api.Reply{Gots: []api.Got{}, Scans: [][]api.Pair{{}}}})
}

// P13.1: both noughts, infinities and what is no number, wherever a number stands.
func TestEdges(t *testing.T) {
	seen := map[string]string{}
	for _, x := range edges() {
		w := []api.Write{{At: x}}
		for _, c := range []api.Command{
			{Kind: command.Finish, Writes: w},
			{Kind: command.Decide, Parts: []api.Part{{Writes: w}}},
			{Kind: command.Decide, R: api.Reply{Scans: [][]api.Pair{{{At: x}}}}},
			{Kind: command.Grant, Rule: api.Rule{Lo: x}},
			{Kind: command.Grant, Rule: api.Rule{Hi: x}},
			{Kind: command.Prepare, Hold: api.Hold{Gets: []float64{x}}},
			{Kind: command.Prepare, Hold: api.Hold{Puts: []float64{x}}},
			{Kind: command.Prepare, Hold: api.Hold{Scans: [][2]float64{{x, 3}}}},
		} {
			agreed(t, number.Text(x), c)
			p := string(laid(c))
			if first, was := seen[p]; was && first != text(c) {
				t.Errorf("%v: the bytes of another one", c)
			}
			seen[p] = text(c)
		}
	}
}

// P13.1, P13.2: the fields, from the least to the greatest that they may be.
func TestFields(t *testing.T) {
	for n := range 16 {
		agreed(t, "E", api.Command{Kind: command.Finish, E: api.Errno(n)})
		agreed(t, "E of a reply", api.Command{Kind: command.Decide, R: api.Reply{E: api.Errno(n)}})
		agreed(t, "Shards", api.Command{Kind: command.Decide, Shards: 1 << n})
		agreed(t, "From", api.Command{Kind: command.Grant, Rule: api.Rule{From: n, To: 15 - n}})
	}
	for _, n := range []int{0, 1, 255, 256, 65536, math.MaxUint32} {
		agreed(t, "Quota", api.Command{Kind: command.Grant, Rule: api.Rule{Quota: n}})
	}
	for _, n := range []uint64{0, 1, 1 << 32, top - 1, top} {
		id := api.ID{Session: n, Seq: top - n}
		agreed(t, "Epoch", api.Command{Kind: command.Close, Epoch: n})
		agreed(t, "ID", api.Command{Kind: command.Forget, ID: id})
		agreed(t, "places", api.Command{Kind: command.Finish, ID: id, Epoch: n, Index: n / 2})
		agreed(t, "a reply's places", api.Command{Kind: command.Give, R: api.Reply{Epoch: n, Index: n / 2}})
		agreed(t, "Authority", api.Command{Kind: command.Grant, Rule: api.Rule{ID: n / 2, Authority: n}})
	}
	agreed(t, "what has Del has a Val", api.Command{Kind: command.Finish, Writes: []api.Write{{Del: true, Val: []byte("v")}}})
	agreed(t, "what has nothing has a Val", api.Command{Kind: command.Decide, R: api.Reply{Gots: []api.Got{{Val: []byte("v")}}}})
	agreed(t, "a number twice", api.Command{Kind: command.Finish, Writes: []api.Write{{At: 2}, {At: 1}, {At: 2}}})
}

func val(n int) []byte { return bytes.Repeat([]byte{'v'}, n) }

// limits: commands that have just so many of something, by what that is.
func limits(more int) map[string][]api.Command {
	w := []api.Write{{Val: val(api.MaxValue + more)}}
	ops := make([]api.Write, api.MaxOps+more)
	gots := api.Reply{Gots: make([]api.Got, api.MaxOps+more)}
	scans := api.Reply{Scans: make([][]api.Pair, api.MaxOps+more)}
	pairs := api.Reply{Scans: [][]api.Pair{nil, make([]api.Pair, api.MaxScan+more)}}
	gotVal := api.Reply{Gots: []api.Got{{}, {Has: true, Val: val(api.MaxValue + more)}}}
	pairVal := api.Reply{Scans: [][]api.Pair{{{}, {Val: val(api.MaxValue + more)}}}}
	both := func(r api.Reply) []api.Command {
		return []api.Command{{Kind: command.Decide, R: r}, {Kind: command.Give, R: r}}
	}
	wrote := func(l []api.Write) []api.Command {
		return []api.Command{{Kind: command.Finish, Writes: l}, {Kind: command.Decide, Parts: []api.Part{{}, {Writes: l}}}, {Kind: command.Give, Writes: l}}
	}
	held := func(h api.Hold) []api.Command { return []api.Command{{Kind: command.Prepare, Hold: h}} }
	return map[string][]api.Command{
		"writes": wrote(ops), "a write's Val": wrote(w),
		"Parts": {{Kind: command.Decide, Parts: make([]api.Part, api.MaxShards+more)}},
		"Gots":  both(gots), "a Got's Val": both(gotVal),
		"Scans": both(scans), "pairs": both(pairs), "a pair's Val": both(pairVal),
		"Gets": held(api.Hold{Gets: make([]float64, api.MaxOps+more)}), "Puts": held(api.Hold{Puts: make([]float64, api.MaxOps+more)}),
		"spans": held(api.Hold{Scans: make([][2]float64, api.MaxOps+more)}), "Data": held(api.Hold{Data: val(api.MaxValue + 1 + more)}),
	}
}

// P13.2: just MaxOps writes, Gots and Scans, MaxShards Parts, MaxScan pairs, MaxValue bytes of a Val; and one more of each.
func TestLimits(t *testing.T) {
	for what, l := range limits(0) {
		for _, c := range l {
			agreed(t, what, c)
		}
	}
	for what, l := range limits(1) {
		for _, c := range l {
			refused(t, what, laid(c))
		}
	}
	full := api.Part{Writes: make([]api.Write, api.MaxOps)}
	agreed(t, "MaxOps writes in each Part", api.Command{Kind: command.Decide, Parts: []api.Part{full, full, full, full, full, full, full, full}})
	for what, l := range limits(1 << 16) {
		for _, c := range l {
			refused(t, what, laid(c))
		}
	}
}

// P13.2: ReadReply within the limits: one more of something is a fault of its reader, and nothing is read.
func TestReplyLimits(t *testing.T) {
	for more := range 3 {
		for what, l := range limits(more) {
			for _, c := range l {
				w := &octet.Writer{}
				layReply(w, c.R)
				r := octet.Read(w.Done())
				x := command.ReadReply(r)
				if over := more > 0 && text(c.R) != text(api.Reply{}); r.Bad() != over || over && text(x) != text(api.Reply{}) || !over && text(x) != text(c.R) {
					t.Errorf("%s, %d more: %v, Bad %v", what, more, x, r.Bad())
				}
			}
		}
	}
}

// P13.2: each shorter part of right bytes, and bytes with more behind them.
func TestShorterAndLonger(t *testing.T) {
	refused(t, "nil", nil)
	for _, c := range some() {
		p := laid(c)
		for n := range p {
			refused(t, "shorter", p[:n:n])
			either(t, "its end alone", p[n+1:])
		}
		for b := range 256 {
			refused(t, "one more", append(bytes.Clone(p), byte(b)))
		}
		refused(t, "twice", append(bytes.Clone(p), p...))
	}
}

// P13.2: one byte another one: then they are of no command, or of another one, that makes them.
func TestTurned(t *testing.T) {
	for _, c := range some() {
		for p := range garble.Turned(laid(c)) {
			either(t, "turned", p)
			if d, e := command.Decode(p); e == api.OK && text(d) == text(c) {
				t.Errorf("%v of other bytes: %x", d, p)
			}
		}
	}
}

// P13.2: a Kind that is none, whatever stands behind.
func TestKindsOfNone(t *testing.T) {
	for kind := range 256 {
		if byte(kind) >= command.Close && byte(kind) <= command.Give {
			continue
		}
		refused(t, "a Kind alone", []byte{byte(kind)})
		for _, c := range some() {
			p := laid(c)
			p[0] = byte(kind)
			refused(t, "a Kind that is none", p)
		}
	}
}

// wrongAt: right bytes, but for what stands at a place.
func wrongAt(c api.Command, at int, b ...byte) []byte {
	p := laid(c)
	copy(p[at:], b)
	return p
}

// P13.2: a Flag that is none: of a write, a Got, and a Grant.
func TestFlagsOfNone(t *testing.T) {
	finish := api.Command{Kind: command.Finish, Writes: []api.Write{{At: 1, Del: true}}}
	decide := api.Command{Kind: command.Decide, R: api.Reply{Gots: []api.Got{{Has: true}}}}
	grant := api.Command{Kind: command.Grant, On: true}
	for b := range 256 {
		for what, p := range map[string][]byte{
			"Del": wrongAt(finish, 1+16+1+16+4+8, byte(b)),
			"Has": wrongAt(decide, 1+16+8+2+4+1+16+4, byte(b)),
			"On":  wrongAt(grant, 1+8+2+16+8+4, byte(b)),
		} {
			if b < 2 {
				taken(t, what, p)
			} else {
				refused(t, what, p)
			}
		}
	}
}

// P13.2: a Rank that is none, at each place where one stands.
func TestRanksOfNone(t *testing.T) {
	finish := api.Command{Kind: command.Finish, Writes: make([]api.Write, 2)}
	decide := api.Command{Kind: command.Decide, R: api.Reply{Scans: [][]api.Pair{make([]api.Pair, 1)}}}
	grant := api.Command{Kind: command.Grant}
	prepare := api.Command{Kind: command.Prepare, Hold: api.Hold{Gets: []float64{1}}}
	first, last := number.Rank(low), number.Rank(high)
	for rank, none := range map[uint64]bool{0: true, 1: true, first - 1: true, first: false, last: false, last + 1: true, top - 1: true, top: false} {
		b := (&octet.Writer{}).Num(rank, 8).Done()
		for what, p := range map[string][]byte{
			"the first write": wrongAt(finish, 1+16+1+16+4, b...),
			"the next write":  wrongAt(finish, 1+16+1+16+4+13, b...),
			"a pair":          wrongAt(decide, 1+16+8+2+4+1+16+4+4+4, b...),
			"Lo":              wrongAt(grant, 1+8+2, b...),
			"Hi":              wrongAt(grant, 1+8+2+8, b...),
			"a Get":           wrongAt(prepare, 1+24+4, b...),
		} {
			if none {
				refused(t, what, p)
			} else {
				taken(t, what, p)
			}
		}
	}
}

// P13.2: counts and lengths that are far too great, or tell of more, or less, than there is.
func TestCounts(t *testing.T) {
	for what, at := range map[string]int{"writes": 1 + 16 + 1 + 16, "a Val": 1 + 16 + 1 + 16 + 4 + 9} {
		c := api.Command{Kind: command.Finish, Writes: []api.Write{{At: 1, Val: []byte("v")}}}
		taken(t, what, wrongAt(c, at, 1, 0, 0, 0))
		for _, b := range [][]byte{{0, 0, 0, 0}, {2, 0, 0, 0}, {0, 1, 0, 0}, {0, 0, 0, 128}, {255, 255, 255, 255}} {
			refused(t, what, wrongAt(c, at, b...))
		}
	}
	for what, at := range map[string]int{"Parts": 27, "Gots": 27 + 4 + 17, "Scans": 27 + 4 + 17 + 4} {
		for _, b := range [][]byte{{1, 0, 0, 0}, {0, 1, 0, 0}, {255, 255, 255, 255}} {
			refused(t, what, wrongAt(api.Command{Kind: command.Decide}, at, b...))
		}
	}
}

// P13.1, P13.2, P2: by lot: Encode lays what the chapter says, Decode of it is the same, and unlike commands have unlike bytes.
func TestByLot(t *testing.T) {
	g := rand.New(rand.NewSource(13))
	seen := map[string]string{}
	for n := range 14000 {
		c := aCommand(g, command.Close+byte(n%7))
		agreed(t, fmt.Sprint("command ", n), c)
		p, told := string(laid(c)), text(c)
		if first, was := seen[p]; was && first != told {
			t.Fatalf("%s and %s have the same bytes", first, told)
		}
		seen[p] = told
	}
}

// P13.2, P1: bytes by lot: Decode ends, and what it takes makes the same bytes again.
func TestDecodeByLot(t *testing.T) {
	g := rand.New(rand.NewSource(132))
	took := 0
	for n := range 30000 {
		p := garble.ByLot(laid(aCommand(g, command.Close+byte(n%7))), g.Intn)
		either(t, fmt.Sprint("bytes ", n), p)
		if _, e := command.Decode(p); e == api.OK {
			took++
		}
		command.ReadReply(octet.Read(p))
	}
	if took < 1000 {
		t.Errorf("the lot is too even: %d", took)
	}
}

// P1: no call panics: kinds that are none, nil writers and readers, readers behind a fault.
func TestNoPanic(t *testing.T) {
	c := some()[3]
	for kind := range 256 {
		c.Kind = byte(kind)
		command.Encode(c)
	}
	command.Encode(api.Command{Kind: command.Decide, E: -1, R: api.Reply{E: -7}, Parts: []api.Part{{Shard: -1}}, Shards: top})
	command.Encode(api.Command{Kind: command.Grant, Rule: api.Rule{From: -1, To: math.MaxInt, Quota: -1}})
	command.LayReply(nil, c.R)
	behind := octet.Read(laid(c))
	behind.Num(-1)
	for _, r := range []*octet.Reader{nil, octet.Read(nil), behind} {
		if x := command.ReadReply(r); text(x) != text(api.Reply{}) || !r.Bad() {
			t.Errorf("%v, Bad %v", x, r.Bad())
		}
	}
}

// What is answered is new memory: what is read doesn't hang on its bytes, nor the bytes on what they were made of.
func TestMemory(t *testing.T) {
	for _, c := range some() {
		p := command.Encode(c)
		d, before := taken(t, "whole", p), text(c)
		for n := range p {
			p[n] ^= 0xff
		}
		if text(d) != before || text(c) != before || !bytes.Equal(command.Encode(c), laid(c)) {
			t.Errorf("kind %d hangs on its bytes", c.Kind)
		}
	}
}
