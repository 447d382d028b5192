package mvcc_test

import (
	"bytes"
	"fmt"
	"math/rand"
	"sort"
	"testing"

	"dumbwaiter/api"
	"dumbwaiter/mvcc"
	"dumbwaiter/number"
)

// row is a version at a number, in a plain list of all of them.
type row struct {
	at float64
	v  mvcc.Version
}

// list is a store as the chapter's words tell it, without any order of its own.
type list []row

func (l list) put(at float64, v mvcc.Version) list {
	if v.Del {
		v.Val = nil
	}
	var out list
	for _, r := range l {
		if !number.Same(r.at, at) || r.v.Epoch != v.Epoch || r.v.Index != v.Index {
			out = append(out, r)
		}
	}
	return append(out, row{at, v})
}

func later(a, b mvcc.Version) bool {
	return a.Epoch > b.Epoch || a.Epoch == b.Epoch && a.Index > b.Index
}

// last: the last version at a number up to an epoch.
func (l list) last(at float64, epoch uint64) (mvcc.Version, bool) {
	var best mvcc.Version
	found := false
	for _, r := range l {
		if number.Same(r.at, at) && r.v.Epoch <= epoch && (!found || later(r.v, best)) {
			best, found = r.v, true
		}
	}
	return best, found
}

func (l list) get(at float64, epoch uint64) api.Got {
	v, ok := l.last(at, epoch)
	if !ok || v.Del {
		return api.Got{}
	}
	return api.Got{Has: true, Val: v.Val}
}

// numbers: those at which there are versions, rising.
func (l list) numbers() []float64 {
	var out []float64
	for _, r := range l {
		known := false
		for _, x := range out {
			known = known || number.Same(x, r.at)
		}
		if !known {
			out = append(out, r.at)
		}
	}
	sort.Slice(out, func(i, j int) bool { return number.Less(out[i], out[j]) })
	return out
}

func (l list) scan(from, to float64, epoch uint64, most int) []api.Pair {
	var out []api.Pair
	for _, x := range l.numbers() {
		if g := l.get(x, epoch); g.Has && number.Within(x, from, to) && len(out) < most {
			out = append(out, api.Pair{At: x, Val: g.Val})
		}
	}
	return out
}

func (l list) versions(at float64) []mvcc.Version {
	var out []mvcc.Version
	for _, r := range l {
		if number.Same(r.at, at) {
			out = append(out, r.v)
		}
	}
	sort.Slice(out, func(i, j int) bool { return later(out[j], out[i]) })
	return out
}

func (l list) trim(epoch uint64) list {
	var out list
	for _, r := range l {
		v, ok := l.last(r.at, epoch)
		ahead := ok && later(v, r.v)
		spent := ok && !ahead && !later(r.v, v) && v.Del
		if !ahead && !spent {
			out = append(out, r)
		}
	}
	return out
}

func (l list) encode() []byte {
	var out []laid
	for _, x := range l.numbers() {
		out = append(out, at(x, l.versions(x)...))
	}
	return lay(out...)
}

// holds: does a store tell, by all its calls, what the list does?
func holds(t *testing.T, g *rand.Rand, what string, s *mvcc.Store, l list, asked []float64) {
	t.Helper()
	if s.Len() != len(l.numbers()) || s.Size() != len(l) {
		t.Fatalf("%s: Len %d, Size %d, want %d, %d", what, s.Len(), s.Size(), len(l.numbers()), len(l))
	}
	if !bytes.Equal(s.Encode(), l.encode()) {
		t.Fatalf("%s: other bytes", what)
	}
	for _, x := range asked {
		if !sameVersions(s.Versions(x), l.versions(x)) {
			t.Fatalf("%s: Versions(%v) = %v, want %v", what, x, s.Versions(x), l.versions(x))
		}
		epoch := anEpoch(g)
		if !sameGot(s.Get(x, epoch), l.get(x, epoch)) {
			t.Fatalf("%s: Get(%v, %d) = %v, want %v", what, x, epoch, s.Get(x, epoch), l.get(x, epoch))
		}
	}
	for range 5 {
		from, to, epoch, most := asked[g.Intn(len(asked))], asked[g.Intn(len(asked))], anEpoch(g), g.Intn(12)-1
		if got, want := s.Scan(from, to, epoch, most), l.scan(from, to, epoch, most); !samePairs(got, want) {
			t.Fatalf("%s: Scan(%v, %v, %d, %d) = %v, want %v", what, from, to, epoch, most, got, want)
		}
	}
}

// anEpoch: mostly one of a few, seldom the greatest.
func anEpoch(g *rand.Rand) uint64 {
	if g.Intn(12) == 0 {
		return top - uint64(g.Intn(2))
	}
	return uint64(g.Intn(7))
}

// aVersion: a version by lot; its value is written over once it is put.
func aVersion(g *rand.Rand) mvcc.Version {
	v := mvcc.Version{Epoch: anEpoch(g), Index: uint64(g.Intn(4)), Del: g.Intn(4) == 0, Val: make([]byte, g.Intn(5))}
	g.Read(v.Val)
	return v
}

// P11.1, P11.2, and the rule of memory: what is put, read, scanned and trimmed, held against a plain list of versions.
func TestByLot(t *testing.T) {
	asked := append(edges(), 2, 3, 4.5, -7, otherNan)
	for seed := range int64(60) {
		g := rand.New(rand.NewSource(seed))
		s, l := mvcc.New(), list(nil)
		for step := range 80 {
			what := fmt.Sprintf("seed %d, step %d", seed, step)
			switch k := g.Intn(20); {
			case k < 16:
				x, v := asked[g.Intn(len(asked))], aVersion(g)
				kept := v
				kept.Val = bytes.Clone(v.Val)
				l = l.put(x, kept)
				s.Put(x, v)
				if !bytes.Equal(v.Val, kept.Val) {
					t.Fatal("what was handed in is changed")
				}
				smear(v.Val)
			case k < 18:
				epoch := anEpoch(g)
				s.Trim(epoch)
				l = l.trim(epoch)
			default:
				p := s.Encode()
				u, e := mvcc.Decode(p)
				if e != api.OK {
					t.Fatalf("%s: Decode %d", what, e)
				}
				smear(p)
				s = u
			}
			holds(t, g, what, s, l, asked)
			spoil(s, asked)
		}
		holds(t, g, "at last", s, l, asked)
	}
}

// spoil: all that is answered is written over.
func spoil(s *mvcc.Store, asked []float64) {
	for _, x := range asked {
		smear(s.Get(x, top).Val)
		l := s.Versions(x)
		for n := range l {
			smear(l[n].Val)
			l[n] = mvcc.Version{}
		}
	}
	for _, p := range s.Scan(low, nan, top, 100) {
		smear(p.Val)
	}
	smear(s.Encode())
}

// P11.1, P4: what is read as of an epoch, or a later one, is the same behind a Trim of it; what is read as of an epoch is the same whatever is put in later ones.
func TestReadsStay(t *testing.T) {
	asked := edges()
	for seed := range int64(200) {
		g := rand.New(rand.NewSource(seed))
		s := mvcc.New()
		for range g.Intn(60) {
			s.Put(asked[g.Intn(len(asked))], aVersion(g))
		}
		epoch := anEpoch(g)
		before, _ := mvcc.Decode(s.Encode())
		s.Trim(epoch)
		for range 40 {
			later := epoch + uint64(g.Intn(4))
			if later < epoch {
				later = top
			}
			x, from, to := asked[g.Intn(len(asked))], asked[g.Intn(len(asked))], asked[g.Intn(len(asked))]
			if !sameGot(s.Get(x, later), before.Get(x, later)) || !samePairs(s.Scan(from, to, later, 9), before.Scan(from, to, later, 9)) {
				t.Fatalf("seed %d: Trim(%d) is seen as of %d", seed, epoch, later)
			}
		}
		if epoch > top-5 {
			continue
		}
		told := s.Scan(low, nan, epoch, 99)
		for range 30 {
			v := aVersion(g)
			v.Epoch = epoch + 1 + uint64(g.Intn(4))
			s.Put(asked[g.Intn(len(asked))], v)
		}
		if !samePairs(s.Scan(low, nan, epoch, 99), told) {
			t.Fatalf("seed %d: what is put later is seen as of %d", seed, epoch)
		}
	}
}
