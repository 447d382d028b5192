package queue_test

import (
	"bytes"
	"math"
	"math/rand"
	"testing"

	"dumbwaiter/api"
	"dumbwaiter/frame"
	"dumbwaiter/queue"
)

// some: n bytes, none of them 0.
func some(n int) []byte {
	p := make([]byte, n)
	for i := range p {
		p[i] = byte(i%251 + 1)
	}
	return p
}

func made(t *testing.T, size, depth int, from uint64) *queue.Queue {
	t.Helper()
	q, e := queue.New(size, depth, from)
	if e != api.OK || q == nil || q.Len() != 0 {
		t.Fatalf("New(%d, %d, %d) = %v, %d", size, depth, from, q, e)
	}
	return q
}

// puts: does Put of a message answer that, and do so many wait then?
func puts(t *testing.T, q *queue.Queue, p []byte, want api.Errno, wait int) {
	t.Helper()
	if e := q.Put(p); e != want {
		t.Errorf("Put of %d bytes = %d, want %d", len(p), e, want)
	}
	if q.Len() != wait {
		t.Errorf("Len = %d, want %d", q.Len(), wait)
	}
}

// goes: do the frames of a message, by that number, go now, one by one?
func goes(t *testing.T, q *queue.Queue, size int, id uint64, p []byte) {
	t.Helper()
	l, e := frame.Split(size, id, p)
	if e != api.OK {
		t.Fatal(e)
	}
	for i, f := range l {
		wait := q.Len()
		if got := q.Slot(); !bytes.Equal(got, f) || q.Len() != wait-1 {
			t.Fatalf("frame %d of the message %d: %x, want %x; %d of %d wait", i, id, got, f, q.Len(), wait)
		}
	}
}

// dummy: does nothing wait, and a dummy frame go?
func dummy(t *testing.T, q *queue.Queue, size int) {
	t.Helper()
	for range 2 {
		if got := q.Slot(); !bytes.Equal(got, frame.Dummy(size)) || len(got) != size || q.Len() != 0 {
			t.Errorf("Slot = %x, %d wait", got, q.Len())
		}
	}
}

// P6.1: New at its bounds, and one beyond.
func TestNewBounds(t *testing.T) {
	sizes, depths := []int{64, 65, 4095, 4096}, []int{1, 2, 65535, 65536}
	wrongSizes := []int{63, 4097, 0, -1, 19, math.MinInt, math.MaxInt}
	wrongDepths := []int{0, 65537, -1, math.MinInt, math.MaxInt}
	for _, s := range sizes {
		for _, d := range depths {
			dummy(t, made(t, s, d, 0), s)
		}
		for _, d := range wrongDepths {
			refuses(t, s, d)
		}
	}
	for _, s := range wrongSizes {
		for _, d := range append(depths, wrongDepths...) {
			refuses(t, s, d)
		}
	}
}

func refuses(t *testing.T, size, depth int) {
	t.Helper()
	if q, e := queue.New(size, depth, 1); e != api.ErrArg || q != nil {
		t.Errorf("New(%d, %d, 1) = %v, %d", size, depth, q, e)
	}
}

// P6.1: messages wait behind one another, numbered from from on, and go frame by frame; then dummies go.
func TestMessagesWaitAndGo(t *testing.T) {
	for _, size := range []int{64, 200, 4096} {
		room := size - 19
		for _, from := range []uint64{0, 9, 1 << 32, math.MaxUint64 - 1} {
			q := made(t, size, 20, from)
			dummy(t, q, size)
			wait := 0
			lens := []int{2, 0, room, room + 1, 3*room - 1, 3*room + 1}
			for _, n := range lens {
				wait += max(1, (n+room-1)/room)
				puts(t, q, some(n), api.OK, wait)
			}
			for i, n := range lens {
				goes(t, q, size, from+uint64(i), some(n))
			}
			dummy(t, q, size)
			puts(t, q, nil, api.OK, 1)
			goes(t, q, size, from+6, nil)
			dummy(t, q, size)
		}
	}
}

// P6.1: depth at it, and one beyond; of what is refused nothing waits, and it takes no number.
func TestFull(t *testing.T) {
	for _, depth := range []int{1, 2, 3, 10} {
		q := made(t, 64, depth, 5)
		puts(t, q, some(45*depth+1), api.ErrFull, 0)
		dummy(t, q, 64)
		puts(t, q, some(45*depth), api.OK, depth)
		for _, n := range []int{0, 1, 45, 46, 45 * depth, api.MaxRecord} {
			puts(t, q, some(n), api.ErrFull, depth)
		}
		goes(t, q, 64, 5, some(45*depth))
		dummy(t, q, 64)
		puts(t, q, some(45*depth+1), api.ErrFull, 0)
		puts(t, q, some(7), api.OK, 1)
		if depth > 1 {
			puts(t, q, some(45*(depth-1)+1), api.ErrFull, 1)
			puts(t, q, some(45*(depth-1)), api.OK, depth)
		}
		goes(t, q, 64, 6, some(7))
		if depth > 1 {
			goes(t, q, 64, 7, some(45*(depth-1)))
		}
		dummy(t, q, 64)
	}
}

// P6.1: room comes frame by frame, in the middle of a message too.
func TestRoomComesByFrames(t *testing.T) {
	q := made(t, 64, 3, 1)
	puts(t, q, some(130), api.OK, 3)
	puts(t, q, some(1), api.ErrFull, 3)
	q.Slot()
	puts(t, q, some(46), api.ErrFull, 2)
	puts(t, q, some(1), api.OK, 3)
	q.Slot()
	q.Slot()
	goes(t, q, 64, 2, some(1))
	dummy(t, q, 64)
}

// P6.1: the greatest depth, and the longest message.
func TestTheDeepest(t *testing.T) {
	q := made(t, 64, 65536, 1)
	for i := range 65536 {
		if e := q.Put([]byte{byte(i)}); e != api.OK {
			t.Fatalf("the message %d: %d", i, e)
		}
	}
	puts(t, q, nil, api.ErrFull, 65536)
	for i := range 65536 {
		if x, e := frame.Read(q.Slot()); e != api.OK || x.ID != uint64(i+1) || len(x.Data) != 1 || x.Data[0] != byte(i) {
			t.Fatalf("the frame %d: %v, %d", i, x, e)
		}
	}
	dummy(t, q, 64)
}

// P6.1: frame.Split's errors: MaxRecord at it, and one beyond, which takes no number; ErrFull goes ahead of ErrLong, being less.
func TestTooLong(t *testing.T) {
	for _, size := range []int{64, 4096} {
		parts := frame.Parts(size, api.MaxRecord)
		q := made(t, size, 65536, 1)
		puts(t, q, some(api.MaxRecord+1), api.ErrLong, 0)
		puts(t, q, some(api.MaxRecord), api.OK, parts)
		puts(t, q, some(api.MaxRecord+1), api.ErrLong, parts)
		puts(t, q, some(3), api.OK, parts+1)
		goes(t, q, size, 1, some(api.MaxRecord))
		goes(t, q, size, 2, some(3))
		dummy(t, q, size)
		q = made(t, size, parts, 1)
		puts(t, q, some(api.MaxRecord+1), api.ErrLong, 0)
		puts(t, q, some(1), api.OK, 1)
		puts(t, q, some(api.MaxRecord+1), api.ErrFull, 1)
		puts(t, q, some(api.MaxRecord), api.ErrFull, 1)
		goes(t, q, size, 1, some(1))
	}
}

// P6.1: Clear; what was put behind it has the next numbers.
func TestClear(t *testing.T) {
	q := made(t, 64, 3, 1)
	q.Clear()
	dummy(t, q, 64)
	puts(t, q, some(46), api.OK, 2)
	puts(t, q, some(1), api.OK, 3)
	q.Slot()
	q.Clear()
	dummy(t, q, 64)
	q.Clear()
	puts(t, q, some(135), api.OK, 3)
	goes(t, q, 64, 3, some(135))
	dummy(t, q, 64)
}

// P1, P6.1: a nil queue.
func TestNil(t *testing.T) {
	var q *queue.Queue
	for _, p := range [][]byte{nil, {}, some(3), make([]byte, api.MaxRecord+1)} {
		puts(t, q, p, api.ErrNone, 0)
	}
	if p := q.Slot(); len(p) != 0 {
		t.Errorf("Slot = %x", p)
	}
	q.Clear()
	if q.Len() != 0 {
		t.Errorf("Len = %d", q.Len())
	}
	zero := &queue.Queue{}
	zero.Put(some(3))
	zero.Slot()
	zero.Clear()
	zero.Len()
}

// P2 and the rule of memory: what is done with what was handed in, or has gone, isn't to be seen in a queue.
func TestQueueKeepsItsOwnBytes(t *testing.T) {
	q := made(t, 64, 9, 1)
	p := some(46)
	puts(t, q, p, api.OK, 2)
	puts(t, q, p, api.OK, 4)
	if !bytes.Equal(p, some(46)) {
		t.Error("what was handed in is changed")
	}
	clear(p)
	f := q.Slot()
	_ = append(f, "behind"...)
	clear(f)
	q.Slot()
	goes(t, q, 64, 2, some(46))
	d := q.Slot()
	d[0] = 1
	dummy(t, q, 64)
}

// P6.1, P2: calls drawn by lot, held against a plain list; of two queues both answer the same.
func TestByLot(t *testing.T) {
	g := rand.New(rand.NewSource(6))
	for _, depth := range []int{1, 2, 5, 12} {
		q, k := made(t, 64, depth, 100), made(t, 64, depth, 100)
		var wait [][]byte
		next := uint64(100)
		for step := range 3000 {
			switch n := g.Intn(200); {
			case n == 0:
				q.Clear()
				k.Clear()
				wait = nil
			case n < 80:
				p := some(g.Intn(200))
				l, _ := frame.Split(64, next, p)
				want := api.OK
				if len(wait)+len(l) > depth {
					want = api.ErrFull
				} else {
					wait, next = append(wait, l...), next+1
				}
				if e, f := q.Put(p), k.Put(p); e != want || f != want {
					t.Fatalf("step %d: Put = %d, %d, want %d", step, e, f, want)
				}
			default:
				want := frame.Dummy(64)
				if len(wait) > 0 {
					want, wait = wait[0], wait[1:]
				}
				if a, b := q.Slot(), k.Slot(); !bytes.Equal(a, want) || !bytes.Equal(b, want) {
					t.Fatalf("step %d: Slot = %x, %x, want %x", step, a, b, want)
				}
			}
			if q.Len() != len(wait) || k.Len() != len(wait) {
				t.Fatalf("step %d: Len = %d, %d, want %d", step, q.Len(), k.Len(), len(wait))
			}
		}
	}
}
