package frame_test

import (
	"bytes"
	"encoding/binary"
	"hash/crc32"
	"math"
	"testing"

	"dumbwaiter/api"
	"dumbwaiter/frame"
)

// sealed: bytes with their sum behind them, worked out apart from the program.
func sealed(p []byte) []byte {
	p = append([]byte(nil), p...)
	return binary.LittleEndian.AppendUint32(p, crc32.ChecksumIEEE(p))
}

// raw: a frame as the chapter lays it, of whatever numbers, worked out apart from the program; n is how many bytes it says that Data has.
func raw(size int, first byte, id uint64, at, of, n int, data []byte) []byte {
	p := []byte{first}
	p = binary.LittleEndian.AppendUint64(p, id)
	for _, k := range []int{at, of, n} {
		p = binary.LittleEndian.AppendUint16(p, uint16(k))
	}
	p = append(p, data...)
	return sealed(append(p, make([]byte, size-4-len(p))...))
}

// some: n bytes, none of them 0, so that none looks like what is filled up with.
func some(n int) []byte {
	p := make([]byte, n)
	for i := range p {
		p[i] = byte(i%251 + 1)
	}
	return p
}

func split(t *testing.T, size int, id uint64, p []byte) [][]byte {
	t.Helper()
	l, e := frame.Split(size, id, p)
	if e != api.OK {
		t.Fatalf("Split(%d, %d, %d bytes): %d", size, id, len(p), e)
	}
	return l
}

func samePart(x, y frame.Part) bool {
	return x.ID == y.ID && x.At == y.At && x.Of == y.Of && bytes.Equal(x.Data, y.Data)
}

// refused: does Read answer that error, and nothing beside it?
func refused(t *testing.T, what string, p []byte, want api.Errno) {
	t.Helper()
	if x, e := frame.Read(p); e != want || !samePart(x, frame.Part{}) {
		t.Errorf("%s: %v, %d, want error %d", what, x, e, want)
	}
}

func reads(t *testing.T, what string, p []byte, want frame.Part) {
	t.Helper()
	if x, e := frame.Read(p); e != api.OK || !samePart(x, want) {
		t.Errorf("%s: %v, %d, want %v", what, x, e, want)
	}
}

// P5.1: Room, Parts
func TestRoomAndParts(t *testing.T) {
	for size := api.MinFrame; size <= api.MaxFrame; size++ {
		room := frame.Room(size)
		if room != size-19 {
			t.Errorf("Room(%d) = %d", size, room)
		}
		for _, c := range [][2]int{
			{0, 1}, {1, 1}, {room - 1, 1}, {room, 1}, {room + 1, 2}, {2*room - 1, 2}, {2 * room, 2}, {2*room + 1, 3},
			{65535 * room, 65535}, {65535*room + 1, 65536}, {-1, 1}, {math.MinInt, 1}, {math.MaxInt, (math.MaxInt-1)/room + 1},
		} {
			if got := frame.Parts(size, c[0]); got != c[1] {
				t.Errorf("Parts(%d, %d) = %d, want %d", size, c[0], got, c[1])
			}
		}
	}
	if frame.Room(64) != 45 || frame.Parts(64, 46) != 2 || frame.Room(4096) != 4077 {
		t.Error("the examples")
	}
}

// odd: what is no frame's size.
func odd() []int {
	return []int{math.MinInt, math.MinInt + 18, -1, 0, 1, 3, 4, 15, 18, 19, 20, api.MinFrame - 1, api.MaxFrame + 1, 65536, math.MaxInt}
}

// P1: sizes that there are no frames of.
func TestSizesOfNoFrames(t *testing.T) {
	for _, size := range odd() {
		for _, n := range []int{math.MinInt, -1, 0, 1, 100, math.MaxInt} {
			frame.Room(size)
			frame.Parts(size, n)
		}
		if p := frame.Dummy(size); len(p) != 0 {
			t.Errorf("Dummy(%d) = %x", size, p)
		}
		for _, p := range [][]byte{nil, some(1), make([]byte, api.MaxRecord+1)} { // of ErrArg and ErrLong the least is told
			if l, e := frame.Split(size, 1, p); e != api.ErrArg || len(l) != 0 {
				t.Errorf("Split(%d, 1, %d bytes) = %d frames, %d", size, len(p), len(l), e)
			}
		}
	}
}

// P5.1: a frame, byte by byte
func TestSplitLaysFrames(t *testing.T) {
	l := split(t, 64, 0x0807060504030201, some(46))
	want := "\x01" + "\x01\x02\x03\x04\x05\x06\x07\x08" + "\x00\x00" + "\x02\x00" + "\x2d\x00" + string(some(45))
	if len(l) != 2 || string(l[0]) != string(sealed([]byte(want))) {
		t.Fatalf("%x, want %x", l, want)
	}
	want = "\x01" + "\x01\x02\x03\x04\x05\x06\x07\x08" + "\x01\x00" + "\x02\x00" + "\x01\x00" + "\x2e" + string(make([]byte, 44))
	if string(l[1]) != string(sealed([]byte(want))) {
		t.Errorf("%x, want %x", l[1], want)
	}
}

// edges: how many bytes messages have about which frames of a size may err.
func edges(size int) []int {
	room := size - 19
	return []int{0, 1, room - 1, room, room + 1, 2*room - 1, 2 * room, 2*room + 1, 7*room + 3, 255*room + 1, 256 * room, 256*room + 1}
}

// P5.1: Split's frames are those of the chapter, and Read reads them back.
func TestSplitAndRead(t *testing.T) {
	for _, size := range []int{api.MinFrame, api.MinFrame + 1, 128, 1000, api.MaxFrame - 1, api.MaxFrame} {
		room := size - 19
		for _, n := range edges(size) {
			for _, id := range []uint64{0, 1, 1 << 32, math.MaxUint64} {
				if n > api.MaxRecord {
					continue
				}
				p := some(n)
				l := split(t, size, id, p)
				if len(l) != frame.Parts(size, n) {
					t.Fatalf("%d frames of %d bytes, size %d", len(l), n, size)
				}
				for at, f := range l {
					data := p[at*room : min(n, (at+1)*room)]
					if !bytes.Equal(f, raw(size, 1, id, at, len(l), len(data), data)) {
						t.Fatalf("size %d, %d bytes: frame %d is %x", size, n, at, f)
					}
					reads(t, "Read", f, frame.Part{ID: id, At: at, Of: len(l), Data: data})
				}
			}
		}
	}
}

// P5.1: MaxRecord at it, and one beyond.
func TestSplitTheLongest(t *testing.T) {
	for _, size := range []int{api.MinFrame, 100, api.MaxFrame} {
		p := some(api.MaxRecord)
		l := split(t, size, 3, p)
		if want := (api.MaxRecord + size - 20) / (size - 19); len(l) != want {
			t.Errorf("size %d: %d frames, want %d", size, len(l), want)
		}
		j := &frame.Joiner{}
		for i, f := range l {
			got, ok := j.Take(f)
			if ok != (i == len(l)-1) || ok && !bytes.Equal(got, p) {
				t.Fatalf("size %d: frame %d: %v", size, i, ok)
			}
		}
		for _, n := range []int{api.MaxRecord + 1, 2 * api.MaxRecord, 65536 * (api.MinFrame - 19)} {
			if l, e := frame.Split(size, 3, make([]byte, n)); e != api.ErrLong || len(l) != 0 {
				t.Errorf("size %d, %d bytes: %d frames, %d", size, n, len(l), e)
			}
		}
	}
}

// P5.1: dummies of all sizes, and what only looks like one.
func TestDummy(t *testing.T) {
	for size := api.MinFrame; size <= api.MaxFrame; size++ {
		p := frame.Dummy(size)
		if len(p) != size || !bytes.Equal(p, sealed(make([]byte, size-4))) {
			t.Fatalf("Dummy(%d) = %x", size, p)
		}
		refused(t, "a dummy", p, api.ErrNone)
	}
	for _, size := range []int{4, 5, 18, 19, 63, 4097, 70000} {
		refused(t, "noughts of no frame's size", sealed(make([]byte, size-4)), api.ErrForm)
	}
	for i := range 60 { // one place that isn't 0: it is no dummy, and no part
		p := make([]byte, 60)
		p[i] = 1
		refused(t, "a dummy with a byte", sealed(p), api.ErrForm)
	}
}

// P5.1: Read's wrong inputs: octet.Open's errors, also where the size is wrong too.
func TestReadOfChangedBytes(t *testing.T) {
	for _, p := range [][]byte{nil, {}, {1}, {0, 0, 0}} {
		refused(t, "fewer than four", p, api.ErrForm)
	}
	refused(t, "no bytes, sealed", sealed(nil), api.ErrForm)
	refused(t, "a wrong size and a wrong sum", []byte("abcdefgh"), api.ErrSum)
	refused(t, "far too long, and a wrong sum", bytes.Repeat([]byte{1}, 5000), api.ErrSum)
	refused(t, "noughts of a frame's size", make([]byte, 64), api.ErrSum)
	frames := split(t, 64, 7, some(100))
	frames = append(frames, split(t, 200, math.MaxUint64, nil)...)
	frames = append(frames, frame.Dummy(64))
	for _, f := range frames {
		for i := range f {
			for d := 1; d < 256; d++ {
				p := append([]byte(nil), f...)
				p[i] ^= byte(d)
				refused(t, "one byte is another", p, api.ErrSum)
			}
		}
		for n := 5; n < len(f); n++ {
			refused(t, "cut short", f[:n], api.ErrSum)
			refused(t, "cut short ahead", f[len(f)-n:], api.ErrSum)
		}
		for n := range 4 {
			refused(t, "cut to less than a sum", f[:n], api.ErrForm)
		}
		for b := range 256 {
			refused(t, "one byte longer", append(append([]byte(nil), f...), byte(b)), api.ErrSum)
			refused(t, "one byte longer ahead", append([]byte{byte(b)}, f...), api.ErrSum)
		}
	}
}

// P5.1: frames of sizes that are none, though all else is right.
func TestReadOfSizes(t *testing.T) {
	for _, size := range []int{19, 20, 30, api.MinFrame - 1, api.MaxFrame + 1, 5000} {
		refused(t, "no frame's size", raw(size, 1, 1, 0, 1, 0, nil), api.ErrForm)
		refused(t, "no frame's size, full", raw(size, 1, 1, 0, 1, size-19, some(size-19)), api.ErrForm)
	}
	for _, size := range []int{api.MinFrame, api.MinFrame + 1, api.MaxFrame - 1, api.MaxFrame} {
		reads(t, "a frame's size", raw(size, 1, 1, 0, 1, 0, nil), frame.Part{ID: 1, Of: 1})
		reads(t, "a frame's size, full", raw(size, 1, 1, 0, 1, size-19, some(size-19)), frame.Part{ID: 1, Of: 1, Data: some(size - 19)})
	}
}

// P5.1: sealed frames whose numbers are wrong.
func TestReadOfWrongForms(t *testing.T) {
	for first := range 256 {
		if first != 1 {
			refused(t, "another first byte", raw(64, byte(first), 7, 0, 1, 3, some(3)), api.ErrForm)
		}
	}
	for _, c := range [][2]int{{0, 0}, {1, 0}, {1, 1}, {2, 1}, {3, 3}, {4, 3}, {256, 1}, {65535, 65535}, {65535, 0}, {65535, 65534}} {
		refused(t, "At is Of or more", raw(64, 1, 7, c[0], c[1], 45, some(45)), api.ErrForm)
		refused(t, "At is Of or more", raw(64, 1, 7, c[0], c[1], 0, nil), api.ErrForm)
	}
	for _, n := range []int{46, 47, 255, 256, 301, 65535} {
		refused(t, "more than Room", raw(64, 1, 7, 0, 1, n, some(45)), api.ErrForm)
		refused(t, "more than Room, not the last", raw(64, 1, 7, 0, 2, n, some(45)), api.ErrForm)
	}
	for n := range 45 {
		refused(t, "not full, not the last", raw(64, 1, 7, 0, 2, n, some(n)), api.ErrForm)
		refused(t, "not full, the last but one", raw(64, 1, 7, 65533, 65535, n, some(n)), api.ErrForm)
		reads(t, "not full, the last", raw(64, 1, 7, 1, 2, n, some(n)), frame.Part{ID: 7, At: 1, Of: 2, Data: some(n)})
		for k := n; k < 45; k++ {
			data := make([]byte, 45)
			copy(data, some(n))
			data[k] = 1
			refused(t, "something stands behind Data", raw(64, 1, 7, 0, 1, n, data), api.ErrForm)
		}
	}
}

// P5.1: all others are read, whether Split makes them or not.
func TestReadOfWhatSplitDoesNotMake(t *testing.T) {
	for _, x := range []frame.Part{
		{ID: 0, At: 0, Of: 1},
		{ID: 0, At: 1, Of: 2}, // a last part of no bytes
		{ID: 9, At: 65534, Of: 65535},
		{ID: math.MaxUint64, At: 65534, Of: 65535, Data: some(45)},
		{ID: 9, At: 0, Of: 65535, Data: some(45)},
		{ID: 9, At: 256, Of: 30000, Data: make([]byte, 45)},
		{ID: 9, At: 0, Of: 1, Data: make([]byte, 7)}, // noughts as Data
	} {
		reads(t, "a part", raw(64, 1, x.ID, x.At, x.Of, len(x.Data), x.Data), x)
	}
}

// P5.1, P2 and the rule of memory: nothing that is handed in changes, and no answer shares with it, or with another one.
func TestFramesKeepApart(t *testing.T) {
	p := some(100)
	l := split(t, 64, 7, p)
	kept := bytes.Join(l, nil)
	p[0], p[99] = 0, 0
	again := split(t, 64, 7, some(100))
	if !bytes.Equal(bytes.Join(l, nil), kept) || !bytes.Equal(bytes.Join(again, nil), kept) {
		t.Error("frames hang on what was handed in")
	}
	_ = append(l[0], "behind"...)
	x, _ := frame.Read(l[1])
	x.Data[0] = 0
	_ = append(x.Data, "behind"...)
	if !bytes.Equal(bytes.Join(l, nil), kept) {
		t.Error("frames share what they have with an answer")
	}
	for i := range l[0] {
		l[0][i] = 0
	}
	reads(t, "the next frame", l[1], frame.Part{ID: 7, At: 1, Of: 3, Data: some(100)[45:90]})
	d := frame.Dummy(64)
	d[0] = 1
	refused(t, "another dummy", frame.Dummy(64), api.ErrNone)
}
