package policy_test

import (
	"fmt"
	"math"
	"testing"

	"dumbwaiter/api"
	"dumbwaiter/policy"
)

const top = math.MaxUint64

var (
	minusNought = math.Copysign(0, -1)
	low, high   = math.Inf(-1), math.Inf(1)
	nan         = math.NaN()
)

// rule: one of an ID, that is told from others by its Quota.
func rule(id uint64, quota int) api.Rule {
	return api.Rule{ID: id, From: 1, To: 0, Lo: -5, Hi: 5, Authority: 7, Quota: quota}
}

// text: all that is in a rule; NaNs are the same there, noughts aren't.
func text(r api.Rule) string { return fmt.Sprintf("%v", r) }

// at: the Quotas of the rules of an ID that hold in the epochs from 0 on; -1: none does.
func at(t *testing.T, what string, b *policy.Book, id uint64, want ...int) {
	t.Helper()
	for epoch, quota := range want {
		r, ok := b.At(id, uint64(epoch))
		if quota < 0 && (ok || text(r) != text(api.Rule{})) || quota >= 0 && (!ok || text(r) != text(rule(id, quota))) {
			t.Errorf("%s: At(%d, %d) = %v, %v, want %d", what, id, epoch, r, ok, quota)
		}
	}
}

// revoke: Revoke, and what it should answer.
func revoke(t *testing.T, b *policy.Book, id, epoch uint64, want bool) {
	t.Helper()
	if got := b.Revoke(id, epoch); got != want {
		t.Errorf("Revoke(%d, %d) = %v", id, epoch, got)
	}
}

func size(t *testing.T, b *policy.Book, want int) {
	t.Helper()
	if got := b.Len(); got != want {
		t.Errorf("Len = %d, want %d", got, want)
	}
}

// P15.1: the chapter's example: ahead of the epoch, in it, between both, in the one that ends it, and behind.
func TestGrantAndRevoke(t *testing.T) {
	b := policy.New()
	at(t, "at first", b, 1, -1, -1, -1)
	revoke(t, b, 1, 1, false)
	size(t, b, 0)
	b.Grant(rule(1, 10), 2)
	size(t, b, 1)
	at(t, "granted", b, 1, -1, -1, 10, 10, 10, 10, 10)
	if r, ok := b.At(1, top); !ok || text(r) != text(rule(1, 10)) {
		t.Errorf("At the last epoch: %v, %v", r, ok)
	}
	revoke(t, b, 1, 4, true)
	at(t, "revoked", b, 1, -1, -1, 10, 10, -1, -1, -1)
	if _, ok := b.At(1, top); ok {
		t.Error("At the last epoch, revoked")
	}
	revoke(t, b, 1, 5, false)
	revoke(t, b, 1, 4, false)
	revoke(t, b, 1, 3, false)
	at(t, "its end is told", b, 1, -1, -1, 10, 10, -1, -1, -1)
	size(t, b, 1)
}

// P15.1: a Grant of an ID that holds: the old one doesn't any more, from that epoch on.
func TestGrantAgain(t *testing.T) {
	b := policy.New()
	b.Grant(rule(1, 10), 1)
	b.Grant(rule(1, 20), 3)
	at(t, "again", b, 1, -1, 10, 10, 20, 20)
	b.Grant(rule(1, 30), 3)
	at(t, "in one epoch", b, 1, -1, 10, 10, 30, 30)
	b.Grant(rule(1, 40), 4)
	at(t, "in the next", b, 1, -1, 10, 10, 30, 40, 40)
	revoke(t, b, 1, 6, true)
	at(t, "the last one is revoked", b, 1, -1, 10, 10, 30, 40, 40, -1, -1)
	revoke(t, b, 1, 7, false)
	b.Grant(rule(1, 50), 8)
	at(t, "behind its end", b, 1, -1, 10, 10, 30, 40, 40, -1, -1, 50, 50)
	revoke(t, b, 1, 8, true)
	at(t, "revoked in its epoch", b, 1, -1, 10, 10, 30, 40, 40, -1, -1, -1, -1)
	size(t, b, 5)
	b.Grant(rule(1, 60), 8)
	at(t, "and granted there", b, 1, -1, 10, 10, 30, 40, 40, -1, -1, 60, 60)
	size(t, b, 6)
}

// P15.1: rules of other IDs are nobody's business.
func TestIDs(t *testing.T) {
	b := policy.New()
	ids := []uint64{5, 0, top, 4, 1 << 63}
	for n, id := range ids {
		b.Grant(rule(id, 10+n), 1)
		size(t, b, n+1)
	}
	b.Grant(rule(4, 99), 2)
	revoke(t, b, 0, 3, true)
	revoke(t, b, 1, 3, false)
	revoke(t, b, 6, 3, false)
	at(t, "5", b, 5, -1, 10, 10, 10, 10)
	at(t, "0", b, 0, -1, 11, 11, -1, -1)
	at(t, "the greatest", b, top, -1, 12, 12, 12, 12)
	at(t, "4", b, 4, -1, 13, 99, 99, 99)
	at(t, "2^63", b, 1<<63, -1, 14, 14, 14, 14)
	at(t, "none", b, 6, -1, -1, -1, -1)
	size(t, b, 6)
}

// P15.1: the epoch 0: granted there it holds there; revoked there it holds no more from 1 on.
func TestEpochZero(t *testing.T) {
	b := policy.New()
	b.Grant(rule(1, 10), 0)
	at(t, "granted", b, 1, 10, 10, 10)
	revoke(t, b, 1, 0, true)
	at(t, "revoked", b, 1, 10, -1, -1)
	revoke(t, b, 1, 0, false)
	b.Grant(rule(2, 20), 1)
	revoke(t, b, 2, 0, true)
	at(t, "revoked ahead of it", b, 2, -1, -1, -1)
	revoke(t, b, 2, 1, false)
	size(t, b, 2)
}

// P15.1: epochs up to the greatest there is.
func TestGreatEpochs(t *testing.T) {
	b := policy.New()
	b.Grant(rule(1, 10), top-2)
	revoke(t, b, 1, top-1, true)
	b.Grant(rule(1, 20), top)
	for epoch, want := range map[uint64]int{0: -1, 1: -1, 1 << 63: -1, top - 3: -1, top - 2: 10, top - 1: -1, top: 20} {
		if r, ok := b.At(1, epoch); ok != (want >= 0) || ok && r.Quota != want {
			t.Errorf("At(%d) = %v, %v", epoch, r, ok)
		}
	}
	revoke(t, b, 1, top, true)
	if _, ok := b.At(1, top); ok {
		t.Error("revoked in the greatest epoch")
	}
}

// P15.1: a rule that is revoked from a later epoch on holds till then; one that is granted meanwhile is asked first.
func TestLaterEnd(t *testing.T) {
	b := policy.New()
	b.Grant(rule(1, 10), 1)
	revoke(t, b, 1, 5, true)
	at(t, "till then", b, 1, -1, 10, 10, 10, 10, -1, -1)
	b.Grant(rule(1, 20), 3)
	at(t, "meanwhile", b, 1, -1, 10, 10, 20, 20, 20, 20)
}

// P15.1, P6: Allows with each field another one, and At at Lo, at Hi, and beyond each.
func TestAllows(t *testing.T) {
	r := api.Rule{ID: 9, From: 2, To: 1, Lo: minusNought, Hi: 4, Authority: 77, Quota: 0}
	right := api.Release{Session: 5, Seq: 6, Label: 2, At: 1, To: 1, Rule: 9, Authority: 77}
	if !policy.Allows(r, right) || !policy.Allows(api.Rule{}, api.Release{}) {
		t.Error("what a rule allows")
	}
	for what, turn := range map[string]func(q *api.Release){
		"Rule":          func(q *api.Release) { q.Rule = 8 },
		"Rule 0":        func(q *api.Release) { q.Rule = 0 },
		"Label":         func(q *api.Release) { q.Label = 3 },
		"To":            func(q *api.Release) { q.To = 0 },
		"labels turned": func(q *api.Release) { q.Label, q.To = 1, 2 },
		"Authority":     func(q *api.Release) { q.Authority = 78 },
		"Authority 0":   func(q *api.Release) { q.Authority = 0 },
		"At below":      func(q *api.Release) { q.At = -math.SmallestNonzeroFloat64 },
		"At above":      func(q *api.Release) { q.At = math.Nextafter(4, 5) },
		"At nan":        func(q *api.Release) { q.At = nan },
	} {
		q := right
		turn(&q)
		if policy.Allows(r, q) {
			t.Errorf("another %s", what)
		}
	}
	for _, session := range []uint64{0, 1, top} {
		q := right
		q.Session, q.Seq = session, top-session
		if !policy.Allows(r, q) {
			t.Error("whoever asks, and whenever")
		}
	}
}

// P15.1: within Lo and Hi by the order of numbers: both too, -0 ahead of 0, what is no number behind all.
func TestAllowsWithin(t *testing.T) {
	order := []float64{low, -math.MaxFloat64, -1, minusNought, 0, math.SmallestNonzeroFloat64, 1, math.MaxFloat64, high, nan}
	for lo, x := range order {
		for hi, y := range order {
			for n, z := range order {
				if got := policy.Allows(api.Rule{Lo: x, Hi: y}, api.Release{At: z}); got != (lo <= n && n <= hi) {
					t.Errorf("Lo %v, Hi %v, At %v: %v", x, y, z, got)
				}
			}
		}
	}
}

// P15.1, P15.2, P1: of a nil one false, 0.
func TestNilBook(t *testing.T) {
	var b *policy.Book
	b.Grant(rule(1, 10), 1)
	at(t, "nil", b, 1, -1, -1, -1)
	revoke(t, b, 1, 1, false)
	revoke(t, b, 0, 0, false)
	size(t, b, 0)
	if len(b.Encode()) != 0 {
		t.Error("a nil book has bytes")
	}
	zero := &policy.Book{} // nothing is promised of it, but that it doesn't panic
	zero.Grant(rule(1, 10), 1)
	zero.Revoke(1, 2)
	zero.Encode()
}
