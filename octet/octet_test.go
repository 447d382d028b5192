package octet_test

import (
	"bytes"
	"hash/crc32"
	"math"
	"math/rand"
	"testing"

	"dumbwaiter/api"
	"dumbwaiter/octet"
)

func hold(t *testing.T, what string, got, want []byte) {
	t.Helper()
	if !bytes.Equal(got, want) {
		t.Errorf("%s = %x, want %x", what, got, want)
	}
}

// P2.1
func TestWriterNum(t *testing.T) {
	for _, c := range []struct {
		n     uint64
		bytes int
		want  []byte
	}{
		{258, 2, []byte{2, 1}}, {258, 1, []byte{2}}, {256, 1, []byte{0}}, {258, 4, []byte{2, 1, 0, 0}},
		{0, 1, []byte{0}}, {0x0102030405060708, 8, []byte{8, 7, 6, 5, 4, 3, 2, 1}}, {0x0102030405060708, 7, []byte{8, 7, 6, 5, 4, 3, 2}},
		{math.MaxUint64, 8, bytes.Repeat([]byte{255}, 8)}, {math.MaxUint64, 3, []byte{255, 255, 255}},
		{7, 0, nil}, {7, -1, nil}, {7, math.MinInt, nil},
	} {
		w := &octet.Writer{}
		if w.Num(c.n, c.bytes) != w {
			t.Error("Num doesn't answer its writer")
		}
		hold(t, "Num", w.Done(), c.want)
	}
}

// P2.1
func TestWriterLaysOneBehindTheOther(t *testing.T) {
	w := &octet.Writer{}
	hold(t, "Done of nothing", w.Done(), nil)
	if w.Bytes([]byte("hi")) != w || w.Flag(true) != w || w.Flag(false) != w || w.Bytes(nil) != w {
		t.Error("a writer doesn't answer itself")
	}
	first := w.Done()
	want := []byte("\x02\x00\x00\x00hi\x01\x00\x00\x00\x00\x00")
	hold(t, "Done", first, want)
	hold(t, "Done once more", w.Done(), want)
	w.Num(9, 1)
	hold(t, "Done after more", w.Done(), append(append([]byte(nil), want...), 9))
	hold(t, "what was answered before", first, want)
	long := bytes.Repeat([]byte{5}, 300)
	hold(t, "Bytes of 300", (&octet.Writer{}).Bytes(long).Done(), append([]byte{44, 1, 0, 0}, long...))
	hold(t, "Bytes of none", (&octet.Writer{}).Bytes([]byte{}).Done(), []byte{0, 0, 0, 0})
}

// P2.1, P2: what is done with what was handed in or answered isn't to be seen in a writer.
func TestWriterKeepsItsOwnBytes(t *testing.T) {
	in := []byte("abc")
	w := (&octet.Writer{}).Bytes(in)
	in[0] = 'x'
	out := w.Done()
	_ = append(out, "behind"...)
	out[4] = 'y'
	w.Num(1, 1)
	hold(t, "Done", w.Done(), []byte("\x03\x00\x00\x00abc\x01"))
}

// P1: nil objects, and numbers of bytes that nothing is promised of.
func TestNilAndBeyond(t *testing.T) {
	var w *octet.Writer
	if w.Num(1, 2) != nil || w.Bytes([]byte("a")) != nil || w.Flag(true) != nil || len(w.Done()) != 0 {
		t.Error("a nil writer")
	}
	(&octet.Writer{}).Num(1, 9).Num(1, math.MaxInt).Done()
	octet.Read(make([]byte, 20)).Num(12)
	octet.Read(make([]byte, 20)).Num(math.MaxInt)
}

// P2.2
func TestNilReader(t *testing.T) {
	var r *octet.Reader
	for range 2 {
		if !r.Bad() || r.End() || r.Left() != 0 || r.Num(1) != 0 || r.Num(0) != 0 || r.Num(-1) != 0 || len(r.Bytes(9)) != 0 || r.Flag() || r.Count(9) != 0 {
			t.Error("a nil reader")
		}
	}
}

// P2.2
func TestReaderReadsWhatWasLaid(t *testing.T) {
	g := rand.New(rand.NewSource(2))
	for range 200 {
		n, k, f, c := g.Uint64(), 1+g.Intn(8), g.Intn(2) == 1, g.Intn(1000)
		p := make([]byte, g.Intn(40))
		g.Read(p)
		b := (&octet.Writer{}).Num(n, k).Bytes(p).Flag(f).Num(uint64(c), 4).Done()
		r := octet.Read(b)
		if r.Left() != len(b) || r.Bad() || r.End() {
			t.Fatal("at the beginning")
		}
		want := n
		if k < 8 {
			want = n % (1 << (8 * k))
		}
		if got := r.Num(k); got != want {
			t.Errorf("Num(%d) = %x, want %x", k, got, want)
		}
		hold(t, "Bytes", r.Bytes(len(p)), p)
		if r.Left() != 5 || r.End() {
			t.Errorf("Left = %d", r.Left())
		}
		if r.Flag() != f || r.Count(c) != c || !r.End() || r.Bad() || r.Left() != 0 {
			t.Error("Flag, Count, End")
		}
	}
}

// P2.2
func TestReaderOfNothing(t *testing.T) {
	for _, p := range [][]byte{nil, {}} {
		r := octet.Read(p)
		if r == nil || r.Bad() || !r.End() || r.Left() != 0 {
			t.Error("a reader of nothing")
		}
		if r.Num(0) != 0 || r.Bad() || !r.End() {
			t.Error("a number of no bytes is no fault")
		}
		if r.Num(1) != 0 || !r.Bad() || r.End() {
			t.Error("one byte more than there are")
		}
	}
}

// fault: does the call leave its reader with a fault, and all behind it without an answer?
func fault(t *testing.T, what string, p []byte, call func(*octet.Reader) bool) {
	t.Helper()
	r := octet.Read(p)
	if !call(r) {
		t.Errorf("%s: an answer at a fault", what)
	}
	for range 2 {
		if !r.Bad() || r.End() || r.Left() != 0 {
			t.Errorf("%s: Bad %v, End %v, Left %d", what, r.Bad(), r.End(), r.Left())
		}
		if r.Num(0) != 0 || r.Num(1) != 0 || len(r.Bytes(9)) != 0 || r.Flag() || r.Count(9) != 0 {
			t.Errorf("%s: an answer behind a fault", what)
		}
	}
}

func num(n int) func(*octet.Reader) bool {
	return func(r *octet.Reader) bool { return r.Num(n) == 0 }
}

func some(most int) func(*octet.Reader) bool {
	return func(r *octet.Reader) bool { return len(r.Bytes(most)) == 0 }
}

func count(most int) func(*octet.Reader) bool {
	return func(r *octet.Reader) bool { return r.Count(most) == 0 }
}

func flag(r *octet.Reader) bool { return !r.Flag() }

// P2.2
func TestReaderFaults(t *testing.T) {
	ones := bytes.Repeat([]byte{1}, 20)
	fault(t, "Num of too many", ones[:7], num(8))
	fault(t, "Num of far too many", ones, num(math.MaxInt))
	fault(t, "Num(-1)", ones, num(-1))
	fault(t, "Num(MinInt)", ones, num(math.MinInt))
	fault(t, "Num(-1) of nothing", nil, num(-1))
	fault(t, "Flag of nothing", nil, flag)
	fault(t, "Flag 2", []byte{2, 1, 1, 1, 1, 1}, flag)
	fault(t, "Flag 255", []byte{255, 1, 1}, flag)
	fault(t, "Count of three bytes", []byte{0, 0, 0}, count(9))
	fault(t, "Count one above", []byte{6, 0, 0, 0, 1, 1}, count(5))
	fault(t, "Count 1 of 0", []byte{1, 0, 0, 0, 1, 1}, count(0))
	fault(t, "Count the greatest", []byte{255, 255, 255, 255, 1}, count(1<<31))
	fault(t, "Count 0 of -1", []byte{0, 0, 0, 0, 1}, count(-1))
	fault(t, "Count 0 of MinInt", []byte{0, 0, 0, 0, 1}, count(math.MinInt))
	fault(t, "Bytes without a length", []byte{0, 0, 0}, some(9))
	fault(t, "Bytes one above", []byte("\x03\x00\x00\x00abcdef"), some(2))
	fault(t, "Bytes one too few", []byte("\x03\x00\x00\x00ab"), some(9))
	fault(t, "Bytes far too few", []byte("\xff\xff\xff\xffab"), some(math.MaxInt))
	fault(t, "Bytes 0 of -1", []byte("\x00\x00\x00\x00ab"), some(-1))
	fault(t, "Bytes 1 of MinInt", []byte("\x01\x00\x00\x00ab"), some(math.MinInt))
}

// P2.2
func TestReaderAtTheMost(t *testing.T) {
	r := octet.Read([]byte("\x03\x00\x00\x00abc\x05\x00\x00\x00\x00\x00\x00\x00\x00\x00\x00\x00\xff\xff\xff\xff"))
	hold(t, "Bytes at the most", r.Bytes(3), []byte("abc"))
	if r.Count(5) != 5 || r.Bad() {
		t.Error("Count at the most")
	}
	if len(r.Bytes(0)) != 0 || r.Count(0) != 0 || r.Bad() {
		t.Error("none of none")
	}
	if r.Count(math.MaxUint32) != math.MaxUint32 || !r.End() {
		t.Error("the greatest Count")
	}
	r = octet.Read([]byte("\x02\x00\x00\x00hi"))
	hold(t, "Bytes far below the most", r.Bytes(math.MaxInt), []byte("hi"))
}

// P2.2, P2: two readers of the same bytes know nothing of each other, and what they answer is apart from what they read.
func TestReadersChangeNothing(t *testing.T) {
	p := []byte("\x02\x00\x00\x00hi\x01")
	kept := append([]byte(nil), p...)
	a, b := octet.Read(p), octet.Read(p)
	a.Num(-1)
	got := b.Bytes(2)
	_ = append(got, 'x')
	got[0] = 'y'
	hold(t, "what was read", p, kept)
	if b.Bad() || !b.Flag() || !b.End() || !a.Bad() {
		t.Error("readers that see each other")
	}
}

// P2.3
func TestSum(t *testing.T) {
	if got := octet.Sum([]byte("123456789")); got != 0xcbf43926 {
		t.Errorf("Sum = %x", got)
	}
	if octet.Sum(nil) != 0 || octet.Sum([]byte{}) != 0 {
		t.Error("Sum of nothing")
	}
	g := rand.New(rand.NewSource(3))
	for n := range 300 {
		p := make([]byte, n)
		g.Read(p)
		if got, want := octet.Sum(p), crc32.ChecksumIEEE(p); got != want {
			t.Errorf("Sum(%x) = %x, want %x", p, got, want)
		}
	}
	for b := range 256 {
		p := []byte{byte(b)}
		if got, want := octet.Sum(p), crc32.ChecksumIEEE(p); got != want {
			t.Errorf("Sum(%x) = %x, want %x", p, got, want)
		}
	}
}

// P2.3
func TestSealAndOpen(t *testing.T) {
	hold(t, "Seal", octet.Seal([]byte("123456789")), []byte("123456789\x26\x39\xf4\xcb"))
	hold(t, "Seal of nothing", octet.Seal(nil), []byte{0, 0, 0, 0})
	g := rand.New(rand.NewSource(4))
	for n := range 100 {
		p := make([]byte, n)
		g.Read(p)
		s := octet.Seal(p)
		b, e := octet.Open(s)
		if e != api.OK {
			t.Errorf("Open(Seal(%x)) = %d", p, e)
		}
		hold(t, "Open", b, p)
		if len(s) != n+4 {
			t.Errorf("Seal of %d bytes has %d", n, len(s))
		}
	}
}

// P2.3
func TestOpenOfWrongBytes(t *testing.T) {
	for n := range 4 {
		for _, v := range []byte{0, 1} {
			if b, e := octet.Open(bytes.Repeat([]byte{v}, n)); e != api.ErrForm || len(b) != 0 {
				t.Errorf("Open of %d bytes = %x, %d", n, b, e)
			}
		}
	}
	for _, p := range []string{
		"\x00\x00\x00\x01",
		"abc\xc2\x41\x24",         // the last byte is gone
		"bc\xc2\x41\x24\x35",      // the first byte is gone
		"abc\xc2\x41\x24\x35\x00", // one byte more behind
		"\x00abc\xc2\x41\x24\x35", // one byte more ahead
		"abc\x35\x24\x41\xc2",     // the highest byte of the sum first
		"abc\x00\x00\x00\x00",
	} {
		if b, e := octet.Open([]byte(p)); e != api.ErrSum || len(b) != 0 {
			t.Errorf("Open(%x) = %x, %d, want ErrSum", p, b, e)
		}
	}
	if b, e := octet.Open([]byte("abc\xc2\x41\x24\x35")); e != api.OK || string(b) != "abc" {
		t.Errorf("Open = %q, %d", b, e)
	}
}

// turn: the bytes with the bits turned that a mask tells, from a bit on.
func turn(p []byte, from int, mask uint32) []byte {
	q := append([]byte(nil), p...)
	for i := range 32 {
		if mask>>i&1 == 1 {
			q[(from+i)/8] ^= 1 << ((from + i) % 8)
		}
	}
	return q
}

// P2.3
func TestTurnedBitsAreTold(t *testing.T) {
	g := rand.New(rand.NewSource(5))
	masks := []uint32{1, 3, 0x80000001, 0xffffffff, 0xedb88320, 0xdb710641, 0x04c11db7}
	for m := range uint32(128) {
		masks = append(masks, m+1)
	}
	for range 200 {
		masks = append(masks, g.Uint32()|1)
	}
	for _, n := range []int{0, 1, 3, 4, 9, 60} {
		p := make([]byte, n)
		g.Read(p)
		s := octet.Seal(p)
		for from := 0; from < 8*len(s); from++ {
			for _, m := range masks {
				m &= uint32(1<<min(32, 8*len(s)-from) - 1)
				if m == 0 {
					continue
				}
				if b, e := octet.Open(turn(s, from, m)); e != api.ErrSum || len(b) != 0 {
					t.Fatalf("%d bytes, bits %x from %d on: %x, %d", n, m, from, b, e)
				}
			}
		}
	}
}

// P2.3, and the rule of memory: nothing is written behind what was handed in, and nothing answered grows into what stands behind.
func TestSealAndOpenChangeNothing(t *testing.T) {
	room := []byte("abcdefghij")
	s := octet.Seal(room[:3])
	hold(t, "what stands behind", room, []byte("abcdefghij"))
	kept := append([]byte(nil), s...)
	b, _ := octet.Open(s)
	if cap(b) != len(b) {
		t.Error("what Open answers has room to grow")
	}
	_ = append(b, "xyz"...)
	b[0] = 'x'
	hold(t, "sealed bytes", s, kept)
	if again, e := octet.Open(s); e != api.OK || string(again) != "abc" {
		t.Errorf("Open once more = %q, %d", again, e)
	}
}
