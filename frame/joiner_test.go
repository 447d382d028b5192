package frame_test

import (
	"bytes"
	"math"
	"math/rand"
	"slices"
	"testing"

	"dumbwaiter/api"
	"dumbwaiter/frame"
)

// takes: does the joiner make just that message of a frame, and has it then parts of so many?
func takes(t *testing.T, j *frame.Joiner, f, want []byte, left int) {
	t.Helper()
	if p, ok := j.Take(f); !ok || !bytes.Equal(p, want) {
		t.Errorf("Take = %x, %v, want %x", p, ok, want)
	}
	if j.Len() != left {
		t.Errorf("Len = %d, want %d", j.Len(), left)
	}
}

// waits: does the joiner make nothing of a frame, and has it then parts of so many?
func waits(t *testing.T, j *frame.Joiner, f []byte, left int) {
	t.Helper()
	if p, ok := j.Take(f); ok || len(p) != 0 {
		t.Errorf("Take = %x, %v, want nothing", p, ok)
	}
	if j.Len() != left {
		t.Errorf("Len = %d, want %d", j.Len(), left)
	}
}

// orders: all orders of n places.
func orders(n int) [][]int {
	if n == 0 {
		return [][]int{nil}
	}
	var all [][]int
	for _, o := range orders(n - 1) {
		for i := range n {
			all = append(all, slices.Insert(slices.Clone(o), i, n-1))
		}
	}
	return all
}

// P5.2: parts in any order, each of them again and again.
func TestJoinerInAnyOrder(t *testing.T) {
	for n := 1; n <= 5; n++ {
		p := some(45*n - 3)
		l := split(t, 64, 7, p)
		for _, o := range orders(n) {
			for often := 1; often <= 3; often++ {
				j := &frame.Joiner{}
				for i, k := range o {
					if i == n-1 {
						takes(t, j, l[k], p, 0)
						continue
					}
					for range often {
						waits(t, j, l[k], 1)
						waits(t, j, l[o[0]], 1)
					}
				}
			}
		}
	}
}

// P5.2: messages of no bytes, of just one frame, of one byte more; of the least and the greatest size.
func TestJoinerAtTheEdges(t *testing.T) {
	for _, size := range []int{api.MinFrame, 129, api.MaxFrame} {
		j := &frame.Joiner{}
		for id, n := range edges(size) {
			p := some(min(n, api.MaxRecord))
			l := split(t, size, uint64(id), p)
			for _, f := range l[1:] {
				waits(t, j, f, 1)
			}
			takes(t, j, l[0], p, 0)
		}
	}
}

// P5.2: a whole message is gone: it begins anew.
func TestJoinerLetsGoOfWholeMessages(t *testing.T) {
	j := &frame.Joiner{}
	l := split(t, 64, 7, some(90))
	for range 3 {
		waits(t, j, l[1], 1)
		waits(t, j, l[1], 1)
		takes(t, j, l[0], some(90), 0)
	}
	one := split(t, 64, 7, some(9))[0]
	for range 3 {
		takes(t, j, one, some(9), 0)
	}
}

// P5.2: messages are told apart by ID and Of, and by nothing else.
func TestJoinerTellsApart(t *testing.T) {
	j := &frame.Joiner{}
	a, b, c := split(t, 64, 7, some(90)), split(t, 64, 8, make([]byte, 90)), split(t, 64, 7, some(130))
	waits(t, j, a[0], 1)
	waits(t, j, b[1], 2)
	waits(t, j, c[1], 3)
	waits(t, j, c[2], 3)
	takes(t, j, b[0], make([]byte, 90), 2)
	takes(t, j, split(t, 64, 7, some(1))[0], some(1), 2)
	takes(t, j, a[1], some(90), 1)
	takes(t, j, c[0], some(130), 0)
	waits(t, j, raw(64, 1, 7, 0, 2, 45, some(45)), 1) // parts of frames of two sizes
	takes(t, j, raw(100, 1, 7, 1, 2, 60, some(60)), append(some(45), some(60)...), 0)
	waits(t, j, raw(64, 1, 7, 1, 2, 0, nil), 1) // a last part of no bytes is a part
	waits(t, j, raw(64, 1, 7, 1, 2, 0, nil), 1)
	takes(t, j, raw(64, 1, 7, 0, 2, 45, some(45)), some(45), 0)
}

// P5.2: what Read refuses is nothing, whatever is there already.
func TestJoinerOfWrongFrames(t *testing.T) {
	j := &frame.Joiner{}
	l := split(t, 64, 7, some(90))
	wrong := [][]byte{nil, {}, some(3), some(64), frame.Dummy(64), frame.Dummy(4096), raw(64, 2, 7, 1, 2, 45, some(45)),
		raw(64, 1, 7, 2, 2, 45, some(45)), raw(64, 1, 7, 0, 0, 0, nil), raw(64, 1, 7, 0, 2, 44, some(44)), raw(63, 1, 7, 1, 2, 44, some(44)), l[1][:63], append(slices.Clone(l[1]), 0)}
	for i := range l[1] {
		p := slices.Clone(l[1])
		p[i] ^= 16
		wrong = append(wrong, p)
	}
	for _, p := range wrong {
		waits(t, j, p, 0)
	}
	waits(t, j, l[0], 1)
	for _, p := range wrong {
		waits(t, j, p, 1)
	}
	takes(t, j, l[1], some(90), 0)
}

// P5.2: of a part that comes again with other bytes the first stays (the chapter leaves it open).
func TestJoinerOfUnlikeParts(t *testing.T) {
	j := &frame.Joiner{}
	waits(t, j, raw(64, 1, 7, 1, 2, 2, []byte("ab")), 1)
	waits(t, j, raw(64, 1, 7, 1, 2, 3, []byte("xyz")), 1)
	takes(t, j, raw(64, 1, 7, 0, 2, 45, some(45)), append(some(45), "ab"...), 0)
}

// begin: a joiner with parts of the messages 0, 1 .., so many.
func begin(t *testing.T, n int) *frame.Joiner {
	t.Helper()
	j := &frame.Joiner{}
	for id := range n {
		waits(t, j, raw(64, 1, uint64(id), 0, 2, 45, some(45)), min(id+1, frame.Most))
	}
	return j
}

func last(id uint64) []byte { return raw(64, 1, id, 1, 2, 1, some(1)) }

// P5.2: parts of Most messages are there, all of them; of one more the first goes.
func TestJoinerAtMost(t *testing.T) {
	if frame.Most != 16 {
		t.Errorf("Most = %d", frame.Most)
	}
	whole := append(some(45), some(1)...)
	j := begin(t, frame.Most)
	for id := range uint64(frame.Most) {
		takes(t, j, last(id), whole, frame.Most-1-int(id))
	}
	j = begin(t, frame.Most+1)
	for id := uint64(1); id <= frame.Most; id++ {
		takes(t, j, last(id), whole, frame.Most-int(id))
	}
	waits(t, j, last(0), 1)
	j = begin(t, frame.Most+1)
	waits(t, j, last(0), frame.Most) // the one that went begins anew, and 1 goes
	waits(t, j, last(1), frame.Most) // and 2
	takes(t, j, last(3), whole, frame.Most-1)
}

// P5.2: the one that came first goes, though a part of it has come since; and none goes for a part of one that is there.
func TestJoinerLetsTheFirstGo(t *testing.T) {
	part := func(id uint64, at int) []byte { return raw(64, 1, id, at, 3, 45, some(45)) }
	j := &frame.Joiner{}
	for id := range uint64(frame.Most) {
		waits(t, j, part(id, 0), int(id)+1)
	}
	waits(t, j, part(0, 0), frame.Most)
	waits(t, j, part(0, 1), frame.Most)
	waits(t, j, part(99, 0), frame.Most)
	takesAll := func(id uint64, left int) {
		waits(t, j, part(id, 1), left+1)
		takes(t, j, part(id, 2), bytes.Repeat(some(45), 3), left)
	}
	waits(t, j, part(0, 2), frame.Most) // 0 was gone; now 1 is
	takesAll(2, frame.Most-1)
	takesAll(99, frame.Most-2)
	waits(t, j, part(1, 2), frame.Most-1)
	waits(t, j, part(1, 1), frame.Most-1)
	takes(t, j, part(1, 0), bytes.Repeat(some(45), 3), frame.Most-2)
}

// P5.2: a new message of one frame is a new one too; a wrong frame, or a dummy, lets nothing go.
func TestJoinerAtMostOfOneFrame(t *testing.T) {
	whole := append(some(45), some(1)...)
	j := begin(t, frame.Most)
	waits(t, j, frame.Dummy(64), frame.Most)
	waits(t, j, raw(64, 1, 99, 1, 1, 1, some(1)), frame.Most)
	takes(t, j, raw(64, 1, 99, 0, 1, 1, some(1)), some(1), frame.Most-1)
	takes(t, j, raw(64, 1, 99, 0, 1, 1, some(1)), some(1), frame.Most-1)
	waits(t, j, last(0), frame.Most)
	takes(t, j, last(1), whole, frame.Most-1)
}

// P5.2: the greatest Of that a frame can tell.
func TestJoinerOfTheMostParts(t *testing.T) {
	j := &frame.Joiner{}
	const of = math.MaxUint16
	for at := of - 1; at > 0; at-- {
		if _, ok := j.Take(raw(64, 1, 5, at, of, 45, some(45))); ok || j.Len() != 1 {
			t.Fatalf("part %d: %v, Len %d", at, ok, j.Len())
		}
	}
	takes(t, j, raw(64, 1, 5, 0, of, 45, some(45)), bytes.Repeat(some(45), of), 0)
}

// P1: a nil joiner, and an empty one.
func TestNilJoiner(t *testing.T) {
	for _, j := range []*frame.Joiner{nil, {}} {
		for _, p := range [][]byte{nil, {}, some(64), frame.Dummy(64)} {
			waits(t, j, p, 0)
		}
	}
	var j *frame.Joiner
	waits(t, j, split(t, 64, 7, some(9))[0], 0)
	waits(t, j, split(t, 64, 7, some(90))[0], 0)
}

// P2 and the rule of memory: what is done with a frame, or an answer, isn't to be seen in a joiner, nor in the frame.
func TestJoinerKeepsItsOwnBytes(t *testing.T) {
	j := &frame.Joiner{}
	l := split(t, 64, 7, some(90))
	kept := bytes.Join(l, nil)
	waits(t, j, l[0], 1)
	clear(l[0])
	p, ok := j.Take(l[1])
	if !ok || !bytes.Equal(p, some(90)) {
		t.Errorf("%x, %v", p, ok)
	}
	p[50] = 0
	_ = append(p, "behind"...)
	if !bytes.Equal(l[1], kept[64:]) {
		t.Error("a frame shares what it has with a message")
	}
}

// model is a joiner in the chapter's words: which parts came, of messages in the order in which they began.
type model struct {
	begun []frame.Part
	parts [][]frame.Part
}

func (m *model) take(x frame.Part) ([]byte, bool) {
	i := slices.IndexFunc(m.begun, func(y frame.Part) bool { return x.ID == y.ID && x.Of == y.Of })
	if i < 0 {
		if len(m.begun) == 16 {
			m.begun, m.parts = m.begun[1:], m.parts[1:]
		}
		i = len(m.begun)
		m.begun, m.parts = append(m.begun, x), append(m.parts, nil)
	}
	if !slices.ContainsFunc(m.parts[i], func(y frame.Part) bool { return y.At == x.At }) {
		m.parts[i] = append(m.parts[i], x)
	}
	if len(m.parts[i]) < x.Of {
		return nil, false
	}
	l := m.parts[i]
	slices.SortFunc(l, func(x, y frame.Part) int { return x.At - y.At })
	var p []byte
	for _, y := range l {
		p = append(p, y.Data...)
	}
	m.begun, m.parts = slices.Delete(m.begun, i, i+1), slices.Delete(m.parts, i, i+1)
	return p, true
}

// P5.2, P2: frames drawn by lot, held against the chapter's words; of two joiners both answer the same.
func TestJoinerByLot(t *testing.T) {
	g := rand.New(rand.NewSource(5))
	for _, ids := range []int{4, 17, 20, 30} {
		j, k, m := &frame.Joiner{}, &frame.Joiner{}, &model{}
		for step := range 4000 {
			x := frame.Part{ID: uint64(g.Intn(ids)), Of: 1 + g.Intn(4)}
			x.At = g.Intn(x.Of)
			x.Data = bytes.Repeat([]byte{byte(x.ID), byte(x.At), byte(x.Of)}, 15)
			f := raw(64, 1, x.ID, x.At, x.Of, 45, x.Data)
			p, ok := j.Take(f)
			q, ok2 := k.Take(f)
			want, wok := m.take(x)
			if ok != wok || ok2 != wok || !bytes.Equal(p, want) || !bytes.Equal(q, want) || j.Len() != len(m.begun) || k.Len() != len(m.begun) {
				t.Fatalf("step %d, %v: %x, %v, Len %d; want %x, %v, Len %d", step, x, p, ok, j.Len(), want, wok, len(m.begun))
			}
		}
	}
}
