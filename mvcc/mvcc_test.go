package mvcc_test

import (
	"bytes"
	"fmt"
	"math"
	"reflect"
	"testing"

	"dumbwaiter/api"
	"dumbwaiter/mvcc"
	"dumbwaiter/number"
)

const top = math.MaxUint64 // the greatest epoch and index there is

var (
	minusNought = math.Copysign(0, -1)
	low, high   = math.Inf(-1), math.Inf(1)
	nan         = math.NaN()
	otherNan    = math.Float64frombits(0xfff0000000000001)
)

func val(epoch, index uint64, v string) mvcc.Version {
	return mvcc.Version{Epoch: epoch, Index: index, Val: []byte(v)}
}

func gone(epoch, index uint64) mvcc.Version {
	return mvcc.Version{Epoch: epoch, Index: index, Del: true}
}

// with: a new store with versions at the number 1.
func with(l ...mvcc.Version) *mvcc.Store {
	s := mvcc.New()
	for _, v := range l {
		s.Put(1, v)
	}
	return s
}

// plain: versions with their empty values all alike.
func plain(l []mvcc.Version) []mvcc.Version {
	c := []mvcc.Version{}
	for _, v := range l {
		v.Val = append([]byte{}, v.Val...)
		c = append(c, v)
	}
	return c
}

func sameVersions(a, b []mvcc.Version) bool { return reflect.DeepEqual(plain(a), plain(b)) }

func sameGot(a, b api.Got) bool { return a.Has == b.Has && bytes.Equal(a.Val, b.Val) }

func samePairs(a, b []api.Pair) bool {
	if len(a) != len(b) {
		return false
	}
	for n := range a {
		if !number.Same(a[n].At, b[n].At) || !bytes.Equal(a[n].Val, b[n].Val) {
			return false
		}
	}
	return true
}

// has: are these the versions at a number, asked twice, as asking changes nothing?
func has(t *testing.T, what string, s *mvcc.Store, at float64, want ...mvcc.Version) {
	t.Helper()
	for range 2 {
		if got := s.Versions(at); !sameVersions(got, want) {
			t.Errorf("%s: Versions(%v) = %v, want %v", what, at, got, want)
		}
	}
}

// tells: does something stand at a number as of an epoch's end, with that value?
func tells(t *testing.T, s *mvcc.Store, at float64, epoch uint64, want string) {
	t.Helper()
	for range 2 {
		if got := s.Get(at, epoch); !sameGot(got, api.Got{Has: true, Val: []byte(want)}) {
			t.Errorf("Get(%v, %d) = %v %q, want %q", at, epoch, got.Has, got.Val, want)
		}
	}
}

// nothing: does nothing stand there?
func nothing(t *testing.T, s *mvcc.Store, at float64, epoch uint64) {
	t.Helper()
	for range 2 {
		if got := s.Get(at, epoch); got.Has || len(got.Val) != 0 {
			t.Errorf("Get(%v, %d) = %v %q, want nothing", at, epoch, got.Has, got.Val)
		}
	}
}

func sizes(t *testing.T, what string, s *mvcc.Store, numbers, versions int) {
	t.Helper()
	for range 2 {
		if s.Len() != numbers || s.Size() != versions {
			t.Errorf("%s: Len %d, Size %d, want %d, %d", what, s.Len(), s.Size(), numbers, versions)
		}
	}
}

// P11.1: the chapter's example.
func TestExample(t *testing.T) {
	s := with(val(2, 0, "a"), gone(3, 0))
	tells(t, s, 1, 2, "a")
	nothing(t, s, 1, 3)
}

// P11.1: an empty store.
func TestNew(t *testing.T) {
	s := mvcc.New()
	sizes(t, "New", s, 0, 0)
	nothing(t, s, 0, 0)
	nothing(t, s, nan, top)
	has(t, "New", s, 0)
	if l := s.Scan(low, nan, top, 9); len(l) != 0 {
		t.Errorf("Scan = %v", l)
	}
	s.Trim(top)
	sizes(t, "Trim of nothing", s, 0, 0)
	if a := mvcc.New(); a == nil || a == s {
		t.Error("New answers the same one twice")
	}
}

// orders: each order in which versions may come.
func orders(l []mvcc.Version) [][]mvcc.Version {
	if len(l) < 2 {
		return [][]mvcc.Version{l}
	}
	var all [][]mvcc.Version
	for n := range l {
		rest := append(append([]mvcc.Version{}, l[:n]...), l[n+1:]...)
		for _, o := range orders(rest) {
			all = append(all, append([]mvcc.Version{l[n]}, o...))
		}
	}
	return all
}

// P11.1, P4: versions stand by their places, Epoch ahead of Index, whatever order they are put in.
func TestPlaces(t *testing.T) {
	want := []mvcc.Version{val(0, 0, "a"), val(0, top, "b"), val(1, 5, "c"), gone(1, 9), val(2, 0, ""), val(top, 1, "f")}
	for _, o := range orders(want) {
		s := with(o...)
		has(t, fmt.Sprint(o), s, 1, want...)
		sizes(t, "places", s, 1, len(want))
		tells(t, s, 1, 0, "b")
		nothing(t, s, 1, 1)
		tells(t, s, 1, 2, "")
		tells(t, s, 1, top-1, "")
		tells(t, s, 1, top, "f")
		if !bytes.Equal(s.Encode(), with(want...).Encode()) {
			t.Errorf("%v: other bytes", o)
		}
	}
}

// P11.1: one of the same place is no more; places that share an Epoch, or an Index, alone are others.
func TestSamePlace(t *testing.T) {
	s := with(val(2, 3, "a"), val(2, 3, "b"))
	has(t, "twice", s, 1, val(2, 3, "b"))
	sizes(t, "twice", s, 1, 1)
	s.Put(1, gone(2, 3))
	has(t, "Del there", s, 1, gone(2, 3))
	nothing(t, s, 1, 2)
	s.Put(1, val(2, 3, ""))
	has(t, "and back", s, 1, val(2, 3, ""))
	tells(t, s, 1, 2, "")
	s.Put(1, val(2, 2, "x"))
	s.Put(1, val(3, 3, "y"))
	s.Put(1, val(3, 2, "z"))
	has(t, "other places", s, 1, val(2, 2, "x"), val(2, 3, ""), val(3, 2, "z"), val(3, 3, "y"))
	s.Put(1, val(3, 2, "zz"))
	has(t, "between", s, 1, val(2, 2, "x"), val(2, 3, ""), val(3, 2, "zz"), val(3, 3, "y"))
	s.Put(2, val(3, 2, "two"))
	has(t, "at another number", s, 1, val(2, 2, "x"), val(2, 3, ""), val(3, 2, "zz"), val(3, 3, "y"))
	has(t, "at another number", s, 2, val(3, 2, "two"))
	sizes(t, "at another number", s, 2, 5)
}

// P11.1: of one with Del Val is none, in whatever is told.
func TestDelWithVal(t *testing.T) {
	v := gone(2, 1)
	v.Val = []byte("still here?")
	s := with(val(1, 1, "a"), v)
	has(t, "Del with Val", s, 1, val(1, 1, "a"), gone(2, 1))
	nothing(t, s, 1, 2)
	if !bytes.Equal(s.Encode(), with(val(1, 1, "a"), gone(2, 1)).Encode()) {
		t.Error("a Val is laid where Del is")
	}
	if string(v.Val) != "still here?" {
		t.Error("what was handed in is changed")
	}
}

// edges: the numbers that the order of layer 1 sets apart, rising.
func edges() []float64 {
	return []float64{low, -math.MaxFloat64, -1, -math.SmallestNonzeroFloat64, minusNought, 0, math.SmallestNonzeroFloat64, 1, math.Nextafter(1, 2), math.MaxFloat64, high, nan}
}

// P11.1: numbers are held against each other by number.Same: both noughts are two, all that is no number is one.
func TestNumbers(t *testing.T) {
	s := mvcc.New()
	l := edges()
	for n := range l { // not in their order
		m := (n*5 + 7) % len(l)
		s.Put(l[m], val(1, uint64(m), number.Text(l[m])))
	}
	sizes(t, "edges", s, len(l), len(l))
	for n, x := range l {
		tells(t, s, x, 1, number.Text(x))
		has(t, "edges", s, x, val(1, uint64(n), number.Text(x)))
	}
	pairs := s.Scan(low, nan, 1, 100)
	if len(pairs) != len(l) {
		t.Fatalf("Scan tells of %d", len(pairs))
	}
	for n, p := range pairs {
		if !number.Same(p.At, l[n]) || string(p.Val) != number.Text(l[n]) {
			t.Errorf("Scan: %v %q, want %v", p.At, p.Val, l[n])
		}
	}
	s.Put(otherNan, val(1, 11, "other"))
	s.Put(-nan, val(2, 0, "third"))
	sizes(t, "NaNs", s, len(l), len(l)+1)
	has(t, "NaNs", s, nan, val(1, 11, "other"), val(2, 0, "third"))
	has(t, "NaNs", s, otherNan, val(1, 11, "other"), val(2, 0, "third"))
	tells(t, s, otherNan, 1, "other")
	if p := s.Scan(otherNan, otherNan, 2, 1); len(p) != 1 || !math.IsNaN(p[0].At) || string(p[0].Val) != "third" {
		t.Errorf("Scan of NaN: %v", p)
	}
	nothing(t, s, math.Nextafter(1, 0), top)
	has(t, "beside", s, math.Nextafter(1, 0))
}

// P11.1: Get as of each epoch: the last version up to it, by its Index among those of one epoch.
func TestGetAsOfEachEpoch(t *testing.T) {
	s := with(val(2, 9, "b"), val(2, 1, "a"), gone(4, 0), val(5, 3, "c"), gone(5, 2), gone(7, 8), val(7, 7, "d"), val(9, 0, ""))
	for epoch, want := range []string{"-", "-", "b", "b", "-", "c", "c", "-", "-", "", ""} {
		if want == "-" {
			nothing(t, s, 1, uint64(epoch))
		} else {
			tells(t, s, 1, uint64(epoch), want)
		}
	}
	tells(t, s, 1, top, "")
	nothing(t, s, 2, top)
	nothing(t, s, 0, top)
	s.Put(1, val(0, 0, "first"))
	tells(t, s, 1, 0, "first")
	tells(t, s, 1, 1, "first")
	tells(t, s, 1, 2, "b")
}

// scanned: does a scan tell just these numbers, each with its text as its value?
func scanned(t *testing.T, what string, got []api.Pair, want ...float64) {
	t.Helper()
	var l []api.Pair
	for _, x := range want {
		l = append(l, api.Pair{At: x, Val: []byte(number.Text(x))})
	}
	if !samePairs(got, l) {
		t.Errorf("%s: %v, want %v", what, got, want)
	}
}

// P11.1: Scan: all, some, none of the numbers; from above to; at the edges.
func TestScan(t *testing.T) {
	s := mvcc.New()
	all := edges()
	for _, x := range all {
		s.Put(x, val(3, 0, number.Text(x)))
	}
	for i, from := range all {
		for j, to := range all {
			var want []float64
			if i <= j {
				want = all[i : j+1]
			}
			scanned(t, fmt.Sprintf("%v to %v", from, to), s.Scan(from, to, 3, 100), want...)
		}
	}
	scanned(t, "an epoch ahead", s.Scan(low, nan, 2, 100))
	scanned(t, "between two", s.Scan(2, 3, 3, 100))
	scanned(t, "between two, turned", s.Scan(3, -0.5, 3, 100))
	scanned(t, "not at numbers that are there", s.Scan(-2, 0.5, 3, 100), all[2:7]...)
	scanned(t, "from a nought to the other", s.Scan(minusNought, 0, 3, 9), minusNought, 0)
	scanned(t, "turned", s.Scan(0, minusNought, 3, 9))
}

// P11.1: Scan tells of the first most; none, if that is 0 or below; what is gone isn't counted.
func TestScanMost(t *testing.T) {
	s := mvcc.New()
	var there []float64
	for n := range 20 {
		x := float64(n)
		s.Put(x, val(1, 1, number.Text(x)))
		if n%3 == 0 {
			s.Put(x, gone(1, 2))
		} else {
			there = append(there, x)
		}
		s.Put(x+0.5, val(2, 0, "later"))
	}
	for _, most := range []int{math.MinInt, -1, 0, 1, 2, 12, 13, 14, math.MaxInt} {
		scanned(t, fmt.Sprint("most ", most), s.Scan(low, nan, 1, most), there[:max(0, min(most, 13))]...)
		scanned(t, fmt.Sprint("from above to, most ", most), s.Scan(9, 8, 1, most))
	}
	scanned(t, "some", s.Scan(2, 5, 1, 2), 2, 4)
	scanned(t, "what is gone at both ends", s.Scan(3, 6, 1, 9), 4, 5)
	scanned(t, "what is gone alone", s.Scan(3, 3, 1, 9))
	for range 70 { // a limit of its own Scan has none
		s.Put(float64(100+s.Len()), val(1, 0, ""))
	}
	if l := s.Scan(100, high, 1, 1000); len(l) != 70 {
		t.Errorf("%d of 70", len(l))
	}
}

// P11.1: Trim ahead of, at and behind each epoch, where the last version up to it has Del, and where it hasn't.
func TestTrim(t *testing.T) {
	l := []mvcc.Version{val(2, 1, "a"), val(2, 2, "b"), gone(4, 0), val(4, 1, "c"), gone(6, 0), gone(6, 3), val(8, 0, "d"), gone(9, 0)}
	// how many are gone by a Trim of each epoch
	for epoch, cut := range []int{0, 0, 1, 1, 3, 3, 6, 6, 6, 8, 8} {
		s := with(l...)
		s.Put(5, val(top, 1, "kept"))
		for range 2 { // once more it finds nothing
			s.Trim(uint64(epoch))
			has(t, fmt.Sprint("Trim ", epoch), s, 1, l[cut:]...)
			has(t, "beside", s, 5, val(top, 1, "kept"))
			n := 2
			if cut == len(l) {
				n = 1
			}
			sizes(t, fmt.Sprint("Trim ", epoch), s, n, len(l)-cut+1)
		}
	}
	s := with(l...)
	s.Put(0, val(0, 0, "x"))
	s.Put(2, gone(0, 0))
	s.Put(3, gone(1, 0))
	s.Trim(0)
	sizes(t, "Trim 0", s, 3, len(l)+2)
	has(t, "Trim 0", s, 2)
	has(t, "Trim 0", s, 0, val(0, 0, "x"))
	s.Put(1, val(top, top, "last"))
	s.Trim(top)
	sizes(t, "Trim of the greatest", s, 2, 2)
	has(t, "Trim of the greatest", s, 1, val(top, top, "last"))
	s.Put(1, gone(top, top))
	s.Put(0, gone(1, 0))
	s.Trim(top)
	sizes(t, "all gone", s, 0, 0)
	s.Put(1, val(1, 1, "again"))
	tells(t, s, 1, 1, "again")
	sizes(t, "again", s, 1, 1)
}

// P11.1: where the last one up to the epoch has Del, and others stand behind it, these stay, and nothing stands ahead of them.
func TestTrimOfDelAheadOfOthers(t *testing.T) {
	s := with(val(1, 0, "a"), gone(2, 0), gone(3, 0), val(4, 0, "b"))
	s.Trim(2)
	has(t, "Trim 2", s, 1, gone(3, 0), val(4, 0, "b")) // the one behind has Del too, but it isn't the last up to 2
	nothing(t, s, 1, 2)
	nothing(t, s, 1, 3)
	tells(t, s, 1, 4, "b")
}

// P11.1, P1: of a nil store nothing, and 0; of a zero one all as of a new one.
func TestNilStore(t *testing.T) {
	var s *mvcc.Store
	for range 2 {
		s.Put(1, val(1, 1, "a"))
		s.Put(nan, gone(top, top))
		s.Trim(top)
		nothing(t, s, 1, top)
		has(t, "nil", s, 1)
		sizes(t, "nil", s, 0, 0)
		if len(s.Scan(low, nan, top, math.MaxInt)) != 0 || len(s.Encode()) != 0 {
			t.Error("a nil store tells something")
		}
	}
	z := &mvcc.Store{}
	z.Put(1, val(1, 1, "a"))
	tells(t, z, 1, 1, "a")
	sizes(t, "zero", z, 1, 1)
}

// P11.1, P2: two stores know nothing of each other.
func TestStoresApart(t *testing.T) {
	a, b := mvcc.New(), mvcc.New()
	a.Put(1, val(1, 1, "a"))
	b.Put(1, val(1, 1, "b"))
	b.Put(2, val(1, 1, "c"))
	b.Trim(top)
	tells(t, a, 1, 1, "a")
	tells(t, b, 1, 1, "b")
	sizes(t, "a", a, 1, 1)
}

// smear: bytes written over.
func smear(p []byte) {
	p = p[:cap(p)]
	for n := range p {
		p[n] ^= 0xff
	}
}

// The rule of memory: what was handed in, and what was answered, may be written over.
func TestMemory(t *testing.T) {
	s := mvcc.New()
	in := []byte("abc")
	s.Put(1, mvcc.Version{Epoch: 1, Index: 1, Val: in[:2]})
	s.Put(2, mvcc.Version{Epoch: 1, Index: 2, Val: in})
	if string(in) != "abc" {
		t.Error("what was handed in is changed")
	}
	smear(in)
	check := func(what string) {
		t.Helper()
		has(t, what, s, 1, val(1, 1, "ab"))
		has(t, what, s, 2, val(1, 2, "abc"))
		tells(t, s, 1, 1, "ab")
		sizes(t, what, s, 2, 2)
	}
	check("handed in")
	smear(s.Get(1, 1).Val)
	check("Get")
	for _, p := range s.Scan(0, 9, 1, 9) {
		smear(p.Val)
	}
	check("Scan")
	l := s.Versions(1)
	smear(l[0].Val)
	l[0] = gone(9, 9)
	_ = append(l, gone(8, 8))
	check("Versions")
	s.Put(1, val(3, 0, "x"))
	l = s.Versions(1)
	l[0], l[1] = l[1], l[0]
	has(t, "turned about", s, 1, val(1, 1, "ab"), val(3, 0, "x"))
	p := s.Encode()
	kept := bytes.Clone(p)
	u, e := mvcc.Decode(p)
	if e != api.OK || !bytes.Equal(p, kept) {
		t.Fatalf("Decode: %d, or its bytes are changed", e)
	}
	smear(p)
	if !bytes.Equal(s.Encode(), kept) || !bytes.Equal(u.Encode(), kept) {
		t.Error("what Encode has answered is kept")
	}
	u.Put(1, val(1, 1, "other"))
	has(t, "a copy", s, 1, val(1, 1, "ab"), val(3, 0, "x"))
}
