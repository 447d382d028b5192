package locks_test

import (
	"bytes"
	"fmt"
	"math/rand"
	"reflect"
	"sort"
	"testing"

	"dumbwaiter/api"
	"dumbwaiter/locks"
	"dumbwaiter/number"
)

// list is a table as the chapter's words tell it, in the order in which holds came.
type list []api.Hold

func touches(h api.Hold, x float64, reads bool) bool {
	for _, y := range h.Puts {
		if number.Same(x, y) {
			return true
		}
	}
	for _, y := range h.Gets {
		if reads && number.Same(x, y) {
			return true
		}
	}
	for _, s := range h.Scans {
		if reads && number.Within(x, s[0], s[1]) {
			return true
		}
	}
	return false
}

// clash: do two holds meet? Asked number by number, of all that the lot draws from.
func clash(a, b api.Hold, all []float64) bool {
	for _, x := range all {
		if touches(a, x, false) && touches(b, x, true) || touches(b, x, false) && touches(a, x, true) {
			return true
		}
	}
	return false
}

func (l list) without(id api.ID) list {
	var out list
	for _, h := range l {
		if h.ID != id {
			out = append(out, h)
		}
	}
	return out
}

func (l list) take(h api.Hold, all []float64) (list, api.Errno) {
	rest := l.without(h.ID)
	for _, o := range rest {
		if clash(o, h, all) {
			return l, api.ErrConflict
		}
	}
	return append(rest, h), api.OK
}

func (l list) sorted() list {
	out := append(list{}, l...)
	sort.Slice(out, func(i, j int) bool {
		a, b := out[i].ID, out[j].ID
		return a.Session < b.Session || a.Session == b.Session && a.Seq < b.Seq
	})
	return out
}

// pick: up to so many numbers by lot.
func pick(g *rand.Rand, all []float64, most int) []float64 {
	var l []float64
	for range g.Intn(most + 1) {
		l = append(l, all[g.Intn(len(all))])
	}
	return l
}

func aHold(g *rand.Rand, all []float64) api.Hold {
	h := api.Hold{ID: id(uint64(g.Intn(4)), uint64(g.Intn(3))), Epoch: uint64(g.Intn(5)), Gets: pick(g, all, 2), Puts: pick(g, all, 2)}
	for range g.Intn(2) {
		i := g.Intn(len(all))
		h.Scans = append(h.Scans, [2]float64{all[i], all[min(len(all)-1, max(0, i+g.Intn(4)-1))]})
	}
	h.Data = make([]byte, g.Intn(3))
	g.Read(h.Data)
	return h
}

// clone: a hold that shares nothing with another.
func clone(h api.Hold) api.Hold {
	h.Gets, h.Puts = append([]float64(nil), h.Gets...), append([]float64(nil), h.Puts...)
	h.Scans, h.Data = append([][2]float64(nil), h.Scans...), bytes.Clone(h.Data)
	return h
}

// P12.1, P12.2, and the rule of memory: what is taken and dropped, held against a plain list of holds.
func TestByLot(t *testing.T) {
	all := append(edges(), 3, 4, 5, 6, 7, 8, 9, 10, otherNan)
	outcomes := map[api.Errno]int{}
	for seed := range int64(150) {
		g := rand.New(rand.NewSource(seed))
		b, l := locks.New(), list(nil)
		for step := range 80 {
			what := fmt.Sprintf("seed %d, step %d", seed, step)
			switch k := g.Intn(12); {
			case k < 8:
				h := aHold(g, all)
				kept := clone(h)
				var want api.Errno
				l, want = l.take(kept, all)
				if e := b.Take(h); e != want {
					t.Fatalf("%s: Take(%v) = %d, want %d", what, h, e, want)
				}
				outcomes[want]++
				if !alike(h, kept) {
					t.Fatal("what was handed in is changed")
				}
				spoil(h)
			case k < 11:
				i := id(uint64(g.Intn(4)), uint64(g.Intn(3)))
				n := len(l)
				l = l.without(i)
				if b.Drop(i) != (len(l) < n) {
					t.Fatalf("%s: Drop(%v)", what, i)
				}
			default:
				p := b.Encode()
				u, e := locks.Decode(p)
				if e != api.OK {
					t.Fatalf("%s: Decode %d", what, e)
				}
				smear(p)
				b = u
			}
			held(t, what, b, l.sorted()...)
			if !bytes.Equal(b.Encode(), tabled(l.sorted()...)) {
				t.Fatalf("%s: other bytes", what)
			}
			for epoch := range uint64(6) {
				if b.Until(epoch) != l.until(epoch) {
					t.Fatalf("%s: Until(%d)", what, epoch)
				}
			}
			for i := range b.All() {
				h, _ := b.Get(b.All()[i])
				spoil(h)
			}
		}
	}
	if outcomes[api.OK] < 1000 || outcomes[api.ErrConflict] < 1000 {
		t.Errorf("the lot is too even: %v", outcomes)
	}
}

func (l list) until(epoch uint64) bool {
	for _, h := range l {
		if h.Epoch <= epoch {
			return true
		}
	}
	return false
}

// P12.1: Meet and Same by lot, held against the words of the chapter.
func TestMeetAndSameByLot(t *testing.T) {
	all := append(edges(), 3, 4, 5, 6)
	g := rand.New(rand.NewSource(12))
	met := 0
	for range 20000 {
		a, b := aHold(g, all), aHold(g, all)
		want := clash(a, b, all)
		if locks.Meet(a, b) != want || locks.Meet(b, a) != want {
			t.Fatalf("Meet(%v, %v) = %v", a, b, !want)
		}
		if want {
			met++
		}
		if locks.Same(a, b) != alike(a, b) || !locks.Same(a, clone(a)) {
			t.Fatalf("Same(%v, %v)", a, b)
		}
	}
	if met < 2000 || met > 18000 {
		t.Errorf("the lot is too even: %d", met)
	}
}

// world is what stands at numbers, by their Ranks.
type world map[uint64]string

// run: what a transaction reads, and then it writes its name.
func (w world) run(h api.Hold, all []float64) []string {
	var read []string
	for _, x := range all {
		if touches(api.Hold{Gets: h.Gets, Scans: h.Scans}, x, true) {
			read = append(read, w[number.Rank(x)])
		}
	}
	for _, x := range h.Puts {
		w[number.Rank(x)] = fmt.Sprint(h.ID)
	}
	return read
}

// P4, P12.1: those that hold something side by side read the same, and leave the same, in whatever order they happen.
func TestSideBySide(t *testing.T) {
	all := edges()
	for seed := range int64(300) {
		g := rand.New(rand.NewSource(seed))
		b := locks.New()
		for n := range 12 {
			h := aHold(g, all)
			h.ID = id(uint64(n), 1)
			b.Take(h)
		}
		var read map[api.ID][]string
		var left world
		for round := range 4 {
			w, told := world{}, map[api.ID][]string{}
			ids := b.All()
			g.Shuffle(len(ids), func(i, j int) { ids[i], ids[j] = ids[j], ids[i] })
			for _, i := range ids {
				h, _ := b.Get(i)
				told[i] = w.run(h, all)
			}
			if round > 0 && (!reflect.DeepEqual(told, read) || !reflect.DeepEqual(w, left)) {
				t.Fatalf("seed %d: the order is seen", seed)
			}
			read, left = told, w
		}
	}
}
