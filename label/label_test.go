package label_test

import (
	"math"
	"slices"
	"testing"

	"dumbwaiter/api"
	"dumbwaiter/label"
)

// relation: is a at or below b, as New is told?
func relation(up []uint64, a, b int) bool { return up[a]>>b&1 == 1 }

// least: the one label of those that hold which is at or below all others of them; -1: there is none.
func least(n int, leq func(a, b int) bool, holds func(c int) bool) int {
	for c := range n {
		if !holds(c) {
			continue
		}
		all := true
		for d := range n {
			all = all && (!holds(d) || leq(c, d))
		}
		if all {
			return c
		}
	}
	return -1
}

// join, meet: by the words of P3.2, label by label.
func join(up []uint64, a, b int) int {
	leq := func(x, y int) bool { return relation(up, x, y) }
	return least(len(up), leq, func(c int) bool { return leq(a, c) && leq(b, c) })
}

func meet(up []uint64, a, b int) int {
	leq := func(x, y int) bool { return relation(up, y, x) }
	return least(len(up), leq, func(c int) bool { return leq(a, c) && leq(b, c) })
}

// isLattice: by the words of P3.1, one after the other.
func isLattice(up []uint64) bool {
	n := len(up)
	for a := range n {
		if up[a]>>n != 0 || !relation(up, a, a) {
			return false
		}
	}
	for a := range n {
		for b := range n {
			if a != b && relation(up, a, b) && relation(up, b, a) {
				return false
			}
			for c := range n {
				if relation(up, a, b) && relation(up, b, c) && !relation(up, a, c) {
					return false
				}
			}
			if join(up, a, b) < 0 || meet(up, a, b) < 0 {
				return false
			}
		}
	}
	return true
}

// chain: n labels, each below the next one.
func chain(n int) []uint64 {
	up := make([]uint64, n)
	for a := range up {
		up[a] = (1<<n - 1) &^ (1<<a - 1)
	}
	return up
}

// cube: the labels are sets of so many things, below those that hold more.
func cube(things int) []uint64 {
	up := make([]uint64, 1<<things)
	for a := range up {
		for b := range up {
			if a&b == a {
				up[a] |= 1 << b
			}
		}
	}
	return up
}

// turnedOver: the same labels with their numbers the other way round.
func turnedOver(up []uint64) []uint64 {
	n := len(up)
	over := make([]uint64, n)
	for a := range n {
		for b := range n {
			if relation(up, a, b) {
				over[n-1-a] |= 1 << (n - 1 - b)
			}
		}
	}
	return over
}

// lattices: some, of all sizes up to the limit.
func lattices() [][]uint64 {
	all := [][]uint64{
		{1},
		{15, 10, 12, 8},
		{0x1f, 0x12, 0x14, 0x18, 0x10}, // three side by side between two
		{0x1f, 0x1a, 0x14, 0x18, 0x10}, // a pentagon
		{1, 3},                         // the greater number is below
	}
	for n := 2; n <= api.MaxLabels; n++ {
		all = append(all, chain(n))
	}
	all = append(all, cube(2), cube(3), cube(4))
	for _, up := range all {
		all = append(all, turnedOver(up))
	}
	return all
}

func made(t *testing.T, up []uint64) *label.Lattice {
	t.Helper()
	l, e := label.New(up)
	if e != api.OK || l == nil {
		t.Fatalf("New(%x): %v, %d", up, l, e)
	}
	return l
}

func refused(t *testing.T, up []uint64, want api.Errno) {
	t.Helper()
	if l, e := label.New(up); e != want || l != nil {
		t.Errorf("New(%x): %v, %d, not %d", up, l, e, want)
	}
}

// P3.1: every relation of up to four labels, with a bit more than there are labels, is taken or refused as the words say.
func TestNewOfAllSmall(t *testing.T) {
	taken := 0
	for n := 1; n <= 4; n++ {
		wide := n + 1
		if n == 4 {
			wide = n
		}
		for code := range uint64(1) << (n * wide) {
			up := make([]uint64, n)
			for a := range up {
				up[a] = code >> (a * wide) & (1<<wide - 1)
			}
			l, e := label.New(up)
			want := api.ErrLattice
			if isLattice(up) {
				want = api.OK
				taken++
			}
			if e != want || (l != nil) != (want == api.OK) {
				t.Fatalf("New(%x): %v, %d, not %d", up, l, e, want)
			}
		}
	}
	// Of labels that are told apart: 1, 2, 6, and 24 chains with 12 diamonds.
	if taken != 1+2+6+36 {
		t.Errorf("%d lattices", taken)
	}
}

// P3.1
func TestNewOfMany(t *testing.T) {
	for _, up := range lattices() {
		made(t, up)
	}
}

// P3.1: no labels, the limit, one beyond.
func TestNewCounts(t *testing.T) {
	refused(t, nil, api.ErrArg)
	refused(t, []uint64{}, api.ErrArg)
	if made(t, chain(api.MaxLabels)).Len() != 16 {
		t.Error("16 labels")
	}
	refused(t, chain(api.MaxLabels+1), api.ErrArg)
	refused(t, make([]uint64, api.MaxLabels+1), api.ErrArg) // both apply: the least number goes first
	refused(t, make([]uint64, 100), api.ErrArg)
	refused(t, make([]uint64, api.MaxLabels), api.ErrLattice)
}

// P3.1: each of the reasons alone.
func TestNewOfNoLattice(t *testing.T) {
	for _, up := range [][]uint64{
		{0},                         // 0 isn't at itself
		{3},                         // bit 1 is no label's
		{1 | 1<<63},                 // nor is bit 63
		{7, 2},                      // nor bit 2
		{3, 2 | 1<<16},              // nor bit 16
		{2, 2},                      // 0 isn't at itself, though 1 is
		{3, 0},                      // 1 isn't at itself
		{3, 3},                      // both are at or below each other
		{7, 7, 4},                   // so are two of three
		{3, 6, 4},                   // 0 below 1 below 2, but not 0 below 2
		{1, 2},                      // nothing is above both
		{7, 2, 4},                   // 1 and 2 have a bottom, and no top
		{5, 6, 4},                   // 0 and 1 have a top, and no bottom
		{63, 58, 60, 8, 16, 32},     // no top
		{63, 58, 58, 40, 48, 32},    // two uppers of 1 and 2 side by side: no least one
		{7, 6, 12, 8},               // what is above one's upper isn't above it
		{math.MaxUint64},            // all bits
		{0b1111, 0b1110, 0b1100, 0}, // a chain, but the last isn't at itself
	} {
		refused(t, up, api.ErrLattice)
	}
}

// P3.1: New keeps nothing of what it was handed, and doesn't change it.
func TestNewKeepsApart(t *testing.T) {
	up := []uint64{15, 10, 12, 8}
	l := made(t, up)
	if !slices.Equal(up, []uint64{15, 10, 12, 8}) {
		t.Errorf("changed to %v", up)
	}
	clear(up)
	if !l.Leq(0, 3) || l.Leq(1, 2) || l.Join(1, 2) != 3 || l.Meet(1, 2) != 0 || l.Rank(3) != 3 || len(l.Below(3)) != 4 {
		t.Error("what was handed in shows through")
	}
}

// P3.2: Len, Is, Leq, Join, Meet of all labels, and of what is none.
func TestAsked(t *testing.T) {
	for _, up := range lattices() {
		l, n := made(t, up), len(up)
		if l.Len() != n {
			t.Errorf("%x: %d labels", up, l.Len())
		}
		for a := range n {
			if !l.Is(a) {
				t.Errorf("%x: %d is a label", up, a)
			}
			for b := range n {
				if l.Leq(a, b) != relation(up, a, b) {
					t.Errorf("%x: Leq(%d, %d)", up, a, b)
				}
				if got, want := l.Join(a, b), join(up, a, b); got != want {
					t.Errorf("%x: Join(%d, %d) = %d, not %d", up, a, b, got, want)
				}
				if got, want := l.Meet(a, b), meet(up, a, b); got != want {
					t.Errorf("%x: Meet(%d, %d) = %d, not %d", up, a, b, got, want)
				}
			}
		}
	}
}

// P3.2: one is none.
func TestNoLabel(t *testing.T) {
	for _, up := range lattices() {
		l, n := made(t, up), len(up)
		for _, a := range []int{-1, n, n + 1, 63, 64, 65, math.MinInt, math.MaxInt} {
			if l.Is(a) || l.Leq(a, a) || l.Join(a, a) != -1 || l.Meet(a, a) != -1 || l.Rank(a) != -1 || len(l.Below(a)) != 0 {
				t.Errorf("%x: %d is no label", up, a)
			}
			for b := range n {
				if l.Leq(a, b) || l.Leq(b, a) || l.Join(a, b) != -1 || l.Join(b, a) != -1 || l.Meet(a, b) != -1 || l.Meet(b, a) != -1 {
					t.Errorf("%x: %d is no label, %d is", up, a, b)
				}
			}
		}
	}
}

// P3.2: Order is by how many are at or below, then by number; Rank, Bottom and Top are by it.
func TestOrder(t *testing.T) {
	for _, up := range lattices() {
		l, n := made(t, up), len(up)
		depth := make([]int, n)
		for a := range n {
			for b := range n {
				if relation(up, b, a) {
					depth[a]++
				}
			}
		}
		order := l.Order()
		if len(order) != n {
			t.Fatalf("%x: Order %v", up, order)
		}
		for i, a := range order {
			if l.Rank(a) != i {
				t.Errorf("%x: Rank(%d) = %d, not %d", up, a, l.Rank(a), i)
			}
			if i == 0 {
				continue
			}
			if b := order[i-1]; depth[b] > depth[a] || depth[b] == depth[a] && b >= a {
				t.Errorf("%x: Order %v", up, order)
			}
		}
		if l.Bottom() != order[0] || l.Top() != order[n-1] {
			t.Errorf("%x: Bottom %d, Top %d", up, l.Bottom(), l.Top())
		}
		for a := range n {
			if !l.Leq(l.Bottom(), a) || !l.Leq(a, l.Top()) {
				t.Errorf("%x: %d is not between Bottom and Top", up, a)
			}
		}
	}
}

// P3.2: an order that is not that of the numbers, told out.
func TestOrderToldOut(t *testing.T) {
	// 3 is below all, 0 and 2 are side by side, 1 is above all.
	l := made(t, []uint64{0b0011, 0b0010, 0b0110, 0b1111})
	if got := l.Order(); !slices.Equal(got, []int{3, 0, 2, 1}) {
		t.Errorf("Order %v", got)
	}
	if l.Bottom() != 3 || l.Top() != 1 || l.Rank(3) != 0 || l.Rank(2) != 2 {
		t.Error("Bottom, Top, Rank")
	}
	// A pentagon: 1 below 3, 2 beside both.
	l = made(t, []uint64{0x1f, 0x1a, 0x14, 0x18, 0x10})
	if got := l.Order(); !slices.Equal(got, []int{0, 1, 2, 3, 4}) {
		t.Errorf("Order %v", got)
	}
}

// P3.2: Below, rising.
func TestBelow(t *testing.T) {
	for _, up := range lattices() {
		l := made(t, up)
		for a := range up {
			var want []int
			for b := range up {
				if relation(up, b, a) {
					want = append(want, b)
				}
			}
			if got := l.Below(a); !slices.Equal(got, want) {
				t.Errorf("%x: Below(%d) = %v, not %v", up, a, got, want)
			}
		}
	}
}

// P3.2: of a nil one 0, false, -1, none; P1: none panics.
func TestNil(t *testing.T) {
	for _, l := range []*label.Lattice{nil, {}} {
		for _, a := range []int{-1, 0, 1, 64, math.MaxInt, math.MinInt} {
			if l.Is(a) || l.Leq(a, a) || l.Join(a, a) != -1 || l.Meet(a, a) != -1 || l.Rank(a) != -1 || len(l.Below(a)) != 0 {
				t.Errorf("%d of none", a)
			}
		}
		if l.Len() != 0 || l.Bottom() != -1 || l.Top() != -1 || len(l.Order()) != 0 {
			t.Error("Len, Bottom, Top, Order of none")
		}
	}
}

// P2, and DOC.md's rule of memory: what was answered may be written over, and calls answer alike again and again.
func TestAnswersAreApart(t *testing.T) {
	l := made(t, []uint64{15, 10, 12, 8})
	order, below := l.Order(), l.Below(3)
	for i := range order {
		order[i], below[i] = 7, 9
	}
	_, _ = append(order, 5), append(below, 5)
	if got := l.Order(); !slices.Equal(got, []int{0, 1, 2, 3}) {
		t.Errorf("Order %v", got)
	}
	if got := l.Below(3); !slices.Equal(got, []int{0, 1, 2, 3}) {
		t.Errorf("Below %v", got)
	}
	if l.Bottom() != 0 || l.Top() != 3 || l.Rank(2) != 2 || l.Join(1, 2) != 3 {
		t.Error("what was answered shows through")
	}
}

// The chapter's example.
func TestExample(t *testing.T) {
	l := made(t, []uint64{3, 2})
	if !l.Leq(0, 1) || l.Leq(1, 0) || l.Join(0, 1) != 1 || l.Rank(1) != 1 {
		t.Error("two labels")
	}
}
