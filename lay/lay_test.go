package lay_test

import (
	"bytes"
	"fmt"
	"math"
	"testing"

	"dumbwaiter/api"
	"dumbwaiter/lay"
	"dumbwaiter/number"
	"dumbwaiter/octet"
)

var minusNought = math.Copysign(0, -1)

func edges() []float64 {
	return []float64{math.Inf(-1), -math.MaxFloat64, -1, -math.SmallestNonzeroFloat64, minusNought, 0, math.SmallestNonzeroFloat64, 0.1, 1, math.MaxFloat64, math.Inf(1), math.NaN(), math.Float64frombits(math.MaxUint64)}
}

// P1.1: a number's bytes are its Rank's, and they are read back; of all NaNs they are the same.
func TestNumber(t *testing.T) {
	for _, x := range edges() {
		w := &octet.Writer{}
		lay.Number(w, x)
		p := w.Done()
		if want := (&octet.Writer{}).Num(number.Rank(x), 8).Done(); !bytes.Equal(p, want) {
			t.Errorf("%v: %x", x, p)
		}
		r := octet.Read(p)
		if got := lay.ReadNumber(r); !number.Same(got, x) || !r.End() {
			t.Errorf("%v: read %v", x, got)
		}
		for n := range p {
			if r := octet.Read(p[:n]); lay.ReadNumber(r) != 0 || !r.Bad() {
				t.Errorf("%v: %d bytes are enough", x, n)
			}
		}
	}
}

// P2.2: a Rank that is none is a fault, and nothing is read behind it.
func TestRanksOfNone(t *testing.T) {
	first, last := number.Rank(math.Inf(-1)), number.Rank(math.Inf(1))
	for n, none := range map[uint64]bool{0: true, 1: true, first - 1: true, first: false, last: false, last + 1: true, math.MaxUint64 - 1: true, math.MaxUint64: false} {
		r := octet.Read((&octet.Writer{}).Num(n, 8).Num(7, 1).Done())
		x := lay.ReadNumber(r)
		if r.Bad() != none || none && x != 0 || !none && number.Rank(x) != n {
			t.Errorf("%d: %v, Bad %v", n, x, r.Bad())
		}
		if behind := r.Num(1); none != (behind == 0) {
			t.Errorf("%d: behind it %d", n, behind)
		}
	}
}

// P13.1: a rule's bytes, one by one, and back.
func TestRule(t *testing.T) {
	x := api.Rule{ID: 0x0102030405060708, From: 255, To: 7, Lo: minusNought, Hi: math.NaN(), Authority: 9, Quota: 0x01020304}
	want := "\x08\x07\x06\x05\x04\x03\x02\x01" + "\xff\x07" + "\xff\xff\xff\xff\xff\xff\xff\x7f" + "\xff\xff\xff\xff\xff\xff\xff\xff" + "\x09\x00\x00\x00\x00\x00\x00\x00" + "\x04\x03\x02\x01"
	w := &octet.Writer{}
	lay.Rule(w, x)
	if got := w.Done(); string(got) != want {
		t.Errorf("%x, want %x", got, want)
	}
	r := octet.Read([]byte(want + "more"))
	if got := lay.ReadRule(r); fmt.Sprint(got) != fmt.Sprint(x) || r.Left() != 4 {
		t.Errorf("%v, want %v", got, x)
	}
	for n := range want {
		if r := octet.Read([]byte(want[:n])); lay.ReadRule(r) != (api.Rule{}) || !r.Bad() {
			t.Errorf("%d bytes are enough", n)
		}
	}
}

// some: writes with something of all.
func some() []api.Write {
	return []api.Write{{At: minusNought, Val: []byte("hi")}, {At: math.NaN(), Del: true}, {At: 1, Del: true, Val: []byte("v")}, {}}
}

// P13.1: the bytes of writes, one by one, and back.
func TestWrites(t *testing.T) {
	want := "\x04\x00\x00\x00" +
		"\xff\xff\xff\xff\xff\xff\xff\x7f" + "\x00" + "\x02\x00\x00\x00hi" +
		"\xff\xff\xff\xff\xff\xff\xff\xff" + "\x01" + "\x00\x00\x00\x00" +
		"\x00\x00\x00\x00\x00\x00\xf0\xbf" + "\x01" + "\x01\x00\x00\x00v" +
		"\x00\x00\x00\x00\x00\x00\x00\x80" + "\x00" + "\x00\x00\x00\x00"
	w := &octet.Writer{}
	lay.Writes(w, some())
	if got := w.Done(); string(got) != want {
		t.Errorf("%x, want %x", got, want)
	}
	r := octet.Read([]byte(want + "more"))
	if got := lay.ReadWrites(r, 4, 2); fmt.Sprint(got) != fmt.Sprint(some()) || r.Left() != 4 {
		t.Errorf("%v, want %v", got, some())
	}
	for n := range want {
		if r := octet.Read([]byte(want[:n])); lay.ReadWrites(r, 4, 2) != nil || !r.Bad() {
			t.Errorf("%d bytes are enough", n)
		}
	}
	w = &octet.Writer{}
	lay.Writes(w, nil)
	if r := octet.Read(w.Done()); len(lay.ReadWrites(r, 0, 0)) != 0 || !r.End() {
		t.Error("none")
	}
}

// P13.1: one write alone.
func TestWrite(t *testing.T) {
	for _, x := range some() {
		w := &octet.Writer{}
		lay.Write(w, x)
		p := w.Done()
		if r := octet.Read(p); fmt.Sprint(lay.ReadWrite(r, len(x.Val))) != fmt.Sprint(x) || !r.End() {
			t.Errorf("%v: other bytes: %x", x, p)
		}
		for n := range p {
			if r := octet.Read(p[:n]); fmt.Sprint(lay.ReadWrite(r, len(x.Val))) != fmt.Sprint(api.Write{}) || !r.Bad() {
				t.Errorf("%v: %d bytes are enough", x, n)
			}
		}
	}
}

// P13.2: more writes, or a longer Val, than may be; a Flag that is none; a count far too great.
func TestWritesOfNone(t *testing.T) {
	w := &octet.Writer{}
	lay.Writes(w, some())
	p := w.Done()
	flag := bytes.Clone(p)
	flag[12] = 2
	for what, l := range map[string][]api.Write{
		"more writes":  lay.ReadWrites(octet.Read(p), 3, 2),
		"a longer Val": lay.ReadWrites(octet.Read(p), 4, 1),
		"none below 0": lay.ReadWrites(octet.Read(p), -1, 2),
		"Vals below 0": lay.ReadWrites(octet.Read(p), 4, -1),
		"a Flag":       lay.ReadWrites(octet.Read(flag), 4, 2),
		"far too many": lay.ReadWrites(octet.Read([]byte{255, 255, 255, 255}), math.MaxInt, 2),
	} {
		if l != nil {
			t.Errorf("%s: %v", what, l)
		}
	}
}

// P1: nil writers and readers.
func TestNil(t *testing.T) {
	lay.Number(nil, 1)
	lay.Rule(nil, api.Rule{ID: 1})
	lay.Writes(nil, some())
	lay.ID(nil, api.ID{Seq: 1})
	lay.Entry(nil, api.Entry{Index: 1})
	lay.Snap(nil, api.Snap{Index: 1})
	lay.Fault(nil)
	if lay.ReadNumber(nil) != 0 || lay.ReadRule(nil) != (api.Rule{}) || lay.ReadWrites(nil, 9, 9) != nil || lay.ReadWrite(nil, 9).Del ||
		lay.ReadID(nil) != (api.ID{}) || lay.ReadEntry(nil, 9).Index != 0 || lay.ReadSnap(nil, 9).Index != 0 {
		t.Error("a nil reader tells something")
	}
}

// P13.1, P17.1: an ID's bytes, one by one, and back.
func TestID(t *testing.T) {
	id := api.ID{Session: 0x0102030405060708, Seq: 9}
	want := "\x08\x07\x06\x05\x04\x03\x02\x01" + "\x09\x00\x00\x00\x00\x00\x00\x00"
	w := &octet.Writer{}
	lay.ID(w, id)
	if got := w.Done(); string(got) != want {
		t.Errorf("%x, want %x", got, want)
	}
	r := octet.Read([]byte(want + "more"))
	if got := lay.ReadID(r); got != id || r.Left() != 4 {
		t.Errorf("%v, want %v", got, id)
	}
	for n := range want {
		if r := octet.Read([]byte(want[:n])); lay.ReadID(r) != (api.ID{}) || !r.Bad() {
			t.Errorf("%d bytes are enough", n)
		}
	}
}

// P8.1, P17.1: an entry's bytes, one by one, and back; not with more bytes of Data than may be.
func TestEntry(t *testing.T) {
	x := api.Entry{Index: 0x0102030405060708, Term: 9, Kind: 255, Data: []byte("abc")}
	want := "\x08\x07\x06\x05\x04\x03\x02\x01" + "\x09\x00\x00\x00\x00\x00\x00\x00" + "\xff" + "\x03\x00\x00\x00abc"
	w := &octet.Writer{}
	lay.Entry(w, x)
	if got := w.Done(); string(got) != want {
		t.Errorf("%x, want %x", got, want)
	}
	r := octet.Read([]byte(want + "more"))
	if got := lay.ReadEntry(r, 3); fmt.Sprint(got) != fmt.Sprint(x) || r.Left() != 4 {
		t.Errorf("%v, want %v", got, x)
	}
	none := fmt.Sprint(api.Entry{})
	if r := octet.Read([]byte(want)); fmt.Sprint(lay.ReadEntry(r, 2)) != none || !r.Bad() {
		t.Error("more Data than may be")
	}
	for n := range want {
		if r := octet.Read([]byte(want[:n])); fmt.Sprint(lay.ReadEntry(r, 3)) != none || !r.Bad() {
			t.Errorf("%d bytes are enough", n)
		}
	}
}

// P8.1, P17.1: a snapshot's bytes, one by one, and back; not with more bytes of Data than may be.
func TestSnap(t *testing.T) {
	s := api.Snap{Index: 0x0102030405060708, Term: 9, Voters: math.MaxUint64, Data: []byte("abc")}
	want := "\x08\x07\x06\x05\x04\x03\x02\x01" + "\x09\x00\x00\x00\x00\x00\x00\x00" + "\xff\xff\xff\xff\xff\xff\xff\xff" + "\x03\x00\x00\x00abc"
	w := &octet.Writer{}
	lay.Snap(w, s)
	if got := w.Done(); string(got) != want {
		t.Errorf("%x, want %x", got, want)
	}
	r := octet.Read([]byte(want + "more"))
	if got := lay.ReadSnap(r, 3); fmt.Sprint(got) != fmt.Sprint(s) || r.Left() != 4 {
		t.Errorf("%v, want %v", got, s)
	}
	none := fmt.Sprint(api.Snap{})
	if r := octet.Read([]byte(want)); fmt.Sprint(lay.ReadSnap(r, 2)) != none || !r.Bad() {
		t.Error("more Data than may be")
	}
	for n := range want {
		if r := octet.Read([]byte(want[:n])); fmt.Sprint(lay.ReadSnap(r, 3)) != none || !r.Bad() {
			t.Errorf("%d bytes are enough", n)
		}
	}
}
