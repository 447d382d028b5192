package logs_test

import (
	"bytes"
	"fmt"
	"math"
	"math/rand"
	"reflect"
	"testing"

	"dumbwaiter/api"
	"dumbwaiter/logs"
)

const top = math.MaxUint64 // the greatest index there is

func entry(i, term uint64, data string) api.Entry {
	return api.Entry{Index: i, Term: term, Data: []byte(data)}
}

func votes(i, term, mask uint64) api.Entry {
	return api.Entry{Index: i, Term: term, Kind: api.Voters, Data: logs.Bytes(mask)}
}

// made: a log of what is none of New's errors.
func made(t *testing.T, s api.Snap, l ...api.Entry) *logs.Log {
	t.Helper()
	g, e := logs.New(s, l)
	if e != api.OK || g == nil {
		t.Fatalf("New(%+v, %+v) = %v, %d", s, l, g, e)
	}
	return g
}

// plain: entries with their empty data all alike.
func plain(l []api.Entry) []api.Entry {
	c := []api.Entry{}
	for _, x := range l {
		x.Data = append([]byte{}, x.Data...)
		c = append(c, x)
	}
	return c
}

func same(a, b []api.Entry) bool { return reflect.DeepEqual(plain(a), plain(b)) }

// stands: does a log tell, by all calls that tell something, just this snapshot and these entries? Asked twice, as asking changes nothing.
func stands(t *testing.T, what string, g *logs.Log, s api.Snap, l ...api.Entry) {
	t.Helper()
	for range 2 {
		last, term := s.Index, s.Term
		for _, x := range l {
			last, term = x.Index, x.Term
		}
		if g.Base() != s.Index || g.Last() != last || g.LastTerm() != term {
			t.Errorf("%s: Base %d, Last %d, LastTerm %d, want %d, %d, %d", what, g.Base(), g.Last(), g.LastTerm(), s.Index, last, term)
		}
		if got := g.From(s.Index+1, math.MaxInt); !same(got, l) {
			t.Errorf("%s: From = %+v, want %+v", what, plain(got), plain(l))
		}
		there(t, what, g, s, l)
		voters(t, what, g, s, l)
	}
}

// there: do Term, Entry, Fit tell of each index what they should, and of those around them?
func there(t *testing.T, what string, g *logs.Log, s api.Snap, l []api.Entry) {
	t.Helper()
	known := map[uint64]api.Entry{}
	for _, x := range l {
		known[x.Index] = x
	}
	asked := []uint64{0, 1, s.Index - 1, s.Index, g.Last() + 1, g.Last() + 2, 1 << 32, 1 << 63, top - 1, top}
	for _, x := range l {
		asked = append(asked, x.Index)
	}
	for _, i := range asked {
		x, is := known[i]
		if got, ok := g.Entry(i); ok != is || !same([]api.Entry{got}, []api.Entry{x}) {
			t.Errorf("%s: Entry(%d) = %+v, %v, want %+v, %v", what, i, got, ok, x, is)
		}
		term := x.Term
		if i == s.Index {
			term, is = s.Term, true
		}
		if got, ok := g.Term(i); ok != is || got != term {
			t.Errorf("%s: Term(%d) = %d, %v, want %d, %v", what, i, got, ok, term, is)
		}
		for _, other := range []uint64{0, term - 1, term, term + 1, top} {
			if g.Fit(i, other) != (is && other == term) {
				t.Errorf("%s: Fit(%d, %d) = %v", what, i, other, g.Fit(i, other))
			}
		}
	}
}

// voters: do Voters and VotersAt tell what the last entry of that kind does, or the snapshot?
func voters(t *testing.T, what string, g *logs.Log, s api.Snap, l []api.Entry) {
	t.Helper()
	mask, at := s.Voters, s.Index
	asked := map[uint64]uint64{0: mask, s.Index: mask}
	for _, x := range l {
		if x.Kind == api.Voters {
			mask, at = logs.Mask(x.Data), x.Index
		}
		asked[x.Index] = mask
	}
	asked[top] = mask
	if m, i := g.Voters(); m != mask || i != at {
		t.Errorf("%s: Voters = %d, %d, want %d, %d", what, m, i, mask, at)
	}
	for i, want := range asked {
		if got := g.VotersAt(i); got != want {
			t.Errorf("%s: VotersAt(%d) = %d, want %d", what, i, got, want)
		}
	}
}

// P9.1: New: entries behind a snapshot, and what is told of them.
func TestNew(t *testing.T) {
	for _, s := range []api.Snap{{}, {Index: 5, Term: 2, Voters: 7, Data: []byte("state")}, {Term: 1}, {Index: 1, Term: top, Voters: top}, {Index: top - 3, Term: 1}} {
		stands(t, "a snapshot alone", made(t, s), s)
		l := []api.Entry{entry(s.Index+1, s.Term, "a"), votes(s.Index+2, s.Term, 5), entry(s.Index+3, s.Term, "")}
		for n := range l {
			stands(t, "with entries", made(t, s, l[:n+1]...), s, l[:n+1]...)
		}
	}
	for _, none := range [][]api.Entry{nil, {}} {
		g, e := logs.New(api.Snap{}, none)
		if e != api.OK {
			t.Errorf("no entries: %d", e)
		}
		stands(t, "no entries", g, api.Snap{})
	}
	s := api.Snap{Index: 3, Term: 2}
	l := []api.Entry{entry(4, 2, ""), entry(5, 4, "x"), entry(6, 4, ""), entry(7, top, "")}
	stands(t, "terms that rise", made(t, s, l...), s, l...)
	end := api.Snap{Index: top}
	stands(t, "the greatest index", made(t, end), end)
}

// P9.1: New: ErrArg: an index that isn't one above the one's ahead, a term below it; and beside it nothing.
func TestNewErrors(t *testing.T) {
	s := api.Snap{Index: 5, Term: 3, Voters: 1}
	for _, l := range [][]api.Entry{
		{entry(0, 3, "")}, {entry(1, 3, "")}, {entry(4, 3, "")}, {entry(5, 3, "")}, {entry(7, 3, "")}, {entry(top, 3, "")},
		{entry(6, 2, "")}, {entry(6, 0, "")},
		{entry(6, 3, ""), entry(6, 3, "")}, {entry(6, 3, ""), entry(8, 3, "")}, {entry(6, 3, ""), entry(5, 3, "")}, {entry(6, 3, ""), entry(0, 3, "")},
		{entry(6, 5, ""), entry(7, 4, "")}, {entry(6, 5, ""), entry(7, 3, "")},
		{entry(6, 3, ""), entry(7, 3, ""), entry(9, 3, "")}, {entry(6, 3, ""), entry(7, 4, ""), entry(8, 3, "")},
		{entry(8, 3, ""), entry(7, 3, ""), entry(6, 3, "")},
	} {
		if g, e := logs.New(s, l); e != api.ErrArg || g != nil {
			t.Errorf("%+v: %v, %d", l, g, e)
		}
	}
	for _, i := range []uint64{0, 1, top} { // behind the greatest index none is one above
		if g, e := logs.New(api.Snap{Index: top}, []api.Entry{entry(i, 1, "")}); e != api.ErrArg || g != nil {
			t.Errorf("%d behind the greatest: %v, %d", i, g, e)
		}
	}
	if _, e := logs.New(api.Snap{Index: top - 1}, []api.Entry{entry(top, 1, ""), entry(0, 1, "")}); e != api.ErrArg {
		t.Errorf("0 behind the greatest: %d", e)
	}
	if _, e := logs.New(api.Snap{}, []api.Entry{entry(0, 0, "")}); e != api.ErrArg {
		t.Errorf("an entry at 0: %d", e)
	}
}

// P9.1: From: those from an index on, so many at most; none, if that isn't there.
func TestFrom(t *testing.T) {
	s := api.Snap{Index: 5, Term: 1}
	l := []api.Entry{entry(6, 1, "a"), entry(7, 1, "b"), votes(8, 2, 3), entry(9, 2, "")}
	g := made(t, s, l...)
	for _, most := range []int{math.MinInt, -1, 0, 1, 2, 3, 4, 5, 100, math.MaxInt} {
		for n := range l {
			want := l[n:][:min(max(most, 0), len(l)-n)]
			if got := g.From(l[n].Index, most); !same(got, want) {
				t.Errorf("From(%d, %d) = %+v, want %+v", l[n].Index, most, got, want)
			}
		}
		for _, i := range []uint64{0, 1, 4, 5, 10, 11, 1 << 63, top} {
			if got := g.From(i, most); len(got) > 0 {
				t.Errorf("From(%d, %d) = %+v", i, most, got)
			}
		}
	}
}

// P9.1: Put: one more, of whatever term and kind; the chapter's example.
func TestPut(t *testing.T) {
	s := api.Snap{Index: 5, Term: 2, Voters: 7}
	g := made(t, s)
	var l []api.Entry
	for n, x := range []api.Entry{entry(6, 2, "x"), entry(7, 2, ""), votes(8, 3, 5), {Index: 9, Term: 3, Kind: 255, Data: []byte{0}}, entry(10, 1, "a term that falls")} {
		if i := g.Put(x.Term, x.Kind, x.Data); i != uint64(6+n) {
			t.Errorf("Put = %d", i)
		}
		l = append(l, x)
		stands(t, "Put", g, s, l...)
	}
	g = made(t, api.Snap{})
	if i := g.Put(0, api.Plain, nil); i != 1 {
		t.Errorf("the first: %d", i)
	}
	stands(t, "Put of nothing", g, api.Snap{}, api.Entry{Index: 1})
	end := api.Snap{Index: top - 1, Term: 1}
	g = made(t, end)
	if i := g.Put(1, api.Plain, nil); i != top {
		t.Errorf("the greatest index: %d", i)
	}
	if i := g.Put(1, api.Plain, nil); i != 0 { // no index is one above it
		t.Errorf("behind the greatest: %d", i)
	}
	stands(t, "the greatest index", g, end, entry(top, 1, ""))
}

// mergeCase: what Merge does to a log behind a snapshot 5 of term 2 with the entries 6 (2), 7 (2), 8 (4).
type mergeCase struct {
	what string
	l    []api.Entry
	at   uint64
	left []api.Entry
}

func mergeCases() []mergeCase {
	was := []api.Entry{entry(6, 2, "a"), votes(7, 2, 3), entry(8, 4, "c")}
	n := func(i, term uint64) api.Entry { return entry(i, term, fmt.Sprint("new ", i)) }
	return []mergeCase{
		{"nothing", nil, 0, was},
		{"an empty list", []api.Entry{}, 0, was},
		{"up to the base", []api.Entry{n(0, 9), n(1, 9)}, 0, was},
		{"up to the base, just", []api.Entry{n(3, 1), n(4, 9), n(5, 9)}, 0, was},
		{"all are there", []api.Entry{n(6, 2), n(7, 2), n(8, 4)}, 0, was},
		{"one is there", []api.Entry{n(7, 2)}, 0, was},
		{"from the base on, all there", []api.Entry{n(5, 1), n(6, 2), n(7, 2)}, 0, was},
		{"the first is another", []api.Entry{n(6, 3)}, 6, []api.Entry{n(6, 3)}},
		{"the first is another, of a lower term", []api.Entry{n(6, 1)}, 6, []api.Entry{n(6, 1)}},
		{"one within", []api.Entry{n(7, 3)}, 7, []api.Entry{was[0], n(7, 3)}},
		{"the last", []api.Entry{n(8, 3)}, 8, []api.Entry{was[0], was[1], n(8, 3)}},
		{"one more", []api.Entry{n(9, 4)}, 9, append(was[:3:3], n(9, 4))},
		{"two more", []api.Entry{n(9, 4), n(10, 5)}, 9, append(was[:3:3], n(9, 4), n(10, 5))},
		{"some there, one more", []api.Entry{n(7, 2), n(8, 4), n(9, 4)}, 9, append(was[:3:3], n(9, 4))},
		{"some there, then another, and more", []api.Entry{n(6, 2), n(7, 3), n(8, 4), n(9, 4)}, 7, []api.Entry{was[0], n(7, 3), n(8, 4), n(9, 4)}},
		{"below the base, and all the way", []api.Entry{n(4, 7), n(5, 7), n(6, 7), n(7, 7)}, 6, []api.Entry{n(6, 7), n(7, 7)}},
		{"another of the same term behind", []api.Entry{n(6, 3), n(7, 2)}, 6, []api.Entry{n(6, 3), n(7, 2)}},
		{"a gap", []api.Entry{n(10, 4)}, 0, was},
		{"a gap, of more", []api.Entry{n(10, 4), n(11, 4)}, 0, was},
		{"a gap, far", []api.Entry{n(top, 4)}, 0, was},
		{"a gap, half way", []api.Entry{n(1<<63, 4)}, 0, was},
	}
}

// P9.2: Merge: what is there stays; from the first other one on all is the list's; gaps, and nothing new: 0, and nothing changes.
func TestMerge(t *testing.T) {
	s := api.Snap{Index: 5, Term: 2, Voters: 7}
	for _, c := range mergeCases() {
		g := made(t, s, entry(6, 2, "a"), votes(7, 2, 3), entry(8, 4, "c"))
		if at := g.Merge(c.l); at != c.at {
			t.Errorf("%s: Merge = %d, want %d", c.what, at, c.at)
		}
		stands(t, c.what, g, s, c.left...)
		if at := g.Merge(c.l); at != 0 {
			t.Errorf("%s: once more: %d", c.what, at)
		}
		stands(t, c.what+", once more", g, s, c.left...)
	}
	g := made(t, s)
	if at := g.Merge([]api.Entry{entry(7, 2, "")}); at != 0 {
		t.Errorf("a gap behind the snapshot: %d", at)
	}
	if at := g.Merge([]api.Entry{entry(5, 2, ""), entry(6, 2, "a")}); at != 6 {
		t.Errorf("behind the snapshot: %d", at)
	}
	stands(t, "behind the snapshot", g, s, entry(6, 2, "a"))
	end := api.Snap{Index: top - 1, Term: 1}
	g = made(t, end)
	if at := g.Merge([]api.Entry{entry(top, 1, "")}); at != top {
		t.Errorf("the greatest index: %d", at)
	}
	stands(t, "the greatest index", g, end, entry(top, 1, ""))
}

// P1, P9.2: entries that don't stand one behind the other: no log comes of them that has a gap.
func TestMergeOfWrongLists(t *testing.T) {
	s := api.Snap{Index: 5, Term: 2}
	a := entry(6, 2, "a")
	for _, l := range [][]api.Entry{
		{entry(7, 2, ""), entry(9, 2, "")}, {entry(7, 2, ""), entry(7, 2, "")}, {entry(7, 2, ""), entry(6, 2, "")},
		{entry(7, 2, ""), entry(0, 2, "")}, {entry(6, 3, ""), entry(top, 3, ""), entry(0, 3, "")}, {entry(9, 3, ""), entry(7, 3, "")},
	} {
		g := made(t, s, a)
		if at := g.Merge(l); at != 0 {
			t.Errorf("%+v: %d", l, at)
		}
		stands(t, "a wrong list", g, s, a)
	}
}

// P9.2: Newer: a term above the last one's, or that one and an index that is no less.
func TestNewer(t *testing.T) {
	for _, g := range []*logs.Log{made(t, api.Snap{Index: 8, Term: 4}), made(t, api.Snap{Index: 7, Term: 2}, entry(8, 4, ""))} {
		for _, term := range []uint64{0, 3, 4, 5, top} {
			for _, i := range []uint64{0, 7, 8, 9, top} {
				want := term > 4 || term == 4 && i >= 8
				if got := g.Newer(i, term); got != want {
					t.Errorf("Newer(%d, %d) = %v", i, term, got)
				}
			}
		}
	}
	if g := made(t, api.Snap{}); !g.Newer(0, 0) || !g.Newer(1, 0) || !g.Newer(0, 1) {
		t.Error("all is as new as nothing")
	}
}

// P9.2: Voters, VotersAt: of the snapshot alone, of an entry, as of an index.
func TestVoters(t *testing.T) {
	s := api.Snap{Index: 5, Term: 1, Voters: 7}
	g := made(t, s, entry(6, 1, "\x09"), votes(7, 1, 3), entry(8, 1, ""), votes(9, 1, 0), api.Entry{Index: 10, Term: 1, Kind: 2, Data: []byte{9}})
	for at, want := range map[uint64]uint64{0: 7, 4: 7, 5: 7, 6: 7, 7: 3, 8: 3, 9: 0, 10: 0, 11: 0, top: 0} {
		if got := g.VotersAt(at); got != want {
			t.Errorf("VotersAt(%d) = %d, want %d", at, got, want)
		}
	}
	if m, at := g.Voters(); m != 0 || at != 9 {
		t.Errorf("Voters = %d, %d", m, at)
	}
	if at := g.Merge([]api.Entry{entry(8, 2, "")}); at != 8 {
		t.Errorf("Merge = %d", at)
	}
	if m, at := g.Voters(); m != 3 || at != 7 {
		t.Errorf("those above are gone: Voters = %d, %d", m, at)
	}
	if at := g.Merge([]api.Entry{entry(7, 2, "")}); at != 7 {
		t.Errorf("Merge = %d", at)
	}
	if m, at := g.Voters(); m != 7 || at != 5 {
		t.Errorf("by the snapshot: Voters = %d, %d", m, at)
	}
	g.Put(2, api.Voters, []byte{1, 2})
	g.Put(2, api.Voters, []byte{1, 2, 3, 4, 5, 6, 7, 8, 9})
	if m, at := g.Voters(); m != 0x0807060504030201 || at != 9 || g.VotersAt(8) != 0x0201 {
		t.Errorf("by bytes: Voters = %x, %d", m, at)
	}
}

// P9.2: Mask and Bytes.
func TestMaskAndBytes(t *testing.T) {
	for _, m := range []uint64{0, 1, 5, 0x7f, 0xff, 0x100, 0x0102030405060708, 1 << 63, top} {
		p := logs.Bytes(m)
		if len(p) != 8 || logs.Mask(p) != m {
			t.Errorf("%x: %x, %x", m, p, logs.Mask(p))
		}
	}
	if p := logs.Bytes(0x0102030405060708); !bytes.Equal(p, []byte{8, 7, 6, 5, 4, 3, 2, 1}) {
		t.Errorf("%x", p)
	}
	for _, c := range []struct {
		p    []byte
		want uint64
	}{
		{nil, 0}, {[]byte{}, 0}, {[]byte{0}, 0}, {[]byte{5}, 5}, {[]byte{0, 5}, 0x0500}, {[]byte{1, 2, 3}, 0x030201},
		{[]byte{1, 2, 3, 4, 5, 6, 7}, 0x07060504030201}, {bytes.Repeat([]byte{255}, 8), top},
		{[]byte{0, 0, 0, 0, 0, 0, 0, 128, 1}, 1 << 63}, {append(make([]byte, 8), 255, 255), 0}, {bytes.Repeat([]byte{1}, 1000), 0x0101010101010101},
	} {
		if got := logs.Mask(c.p); got != c.want {
			t.Errorf("Mask(%x) = %x, want %x", c.p, got, c.want)
		}
	}
	p, q := logs.Bytes(3), logs.Bytes(3)
	clear(p)
	if logs.Mask(q) != 3 || logs.Mask(logs.Bytes(3)) != 3 {
		t.Error("answers share their bytes")
	}
}

// P9.3: Compact: up to each index that is there, the base too; ErrArg, and nothing changes, at others.
func TestCompact(t *testing.T) {
	s := api.Snap{Index: 5, Term: 2, Voters: 7, Data: []byte("state")}
	l := []api.Entry{entry(6, 2, "a"), votes(7, 3, 3), entry(8, 4, "c"), votes(9, 4, 1)}
	snaps := []api.Snap{{Index: 5, Term: 2, Voters: 7}, {Index: 6, Term: 2, Voters: 7}, {Index: 7, Term: 3, Voters: 3}, {Index: 8, Term: 4, Voters: 3}, {Index: 9, Term: 4, Voters: 1}}
	for n, want := range snaps {
		g := made(t, s, l...)
		if e := g.Compact(want.Index); e != api.OK {
			t.Errorf("Compact(%d) = %d", want.Index, e)
		}
		what := fmt.Sprintf("Compact(%d)", want.Index)
		stands(t, what, g, want, l[n:]...)
		for _, i := range []uint64{0, want.Index - 1, 10, 11, top} {
			if e := g.Compact(i); e != api.ErrArg {
				t.Errorf("%s, Compact(%d) = %d", what, i, e)
			}
			stands(t, what+", then an error", g, want, l[n:]...)
		}
		if i := g.Put(9, api.Plain, []byte("more")); i != 10 {
			t.Errorf("%s, Put = %d", what, i)
		}
		stands(t, what+", Put", g, want, append(l[n:len(l):len(l)], entry(10, 9, "more"))...)
		for m := n; m < len(snaps); m++ {
			if e := g.Compact(snaps[m].Index); e != api.OK {
				t.Errorf("%s, Compact(%d) = %d", what, snaps[m].Index, e)
			}
			stands(t, what+", and again", g, snaps[m], append(l[m:len(l):len(l)], entry(10, 9, "more"))...)
		}
	}
	g := made(t, api.Snap{})
	if e := g.Compact(0); e != api.OK {
		t.Errorf("of nothing: %d", e)
	}
	stands(t, "of nothing", g, api.Snap{})
	if e := g.Compact(1); e != api.ErrArg {
		t.Errorf("of nothing, at 1: %d", e)
	}
}

// P9.3: Reset: a snapshot in the place of all, ahead of what was or behind it.
func TestReset(t *testing.T) {
	for _, s := range []api.Snap{{}, {Index: 2, Term: 1, Voters: 1}, {Index: 7, Term: 9, Voters: 5, Data: []byte("state")}, {Index: 100, Term: 3}, {Index: top}} {
		g := made(t, api.Snap{Index: 5, Term: 2, Voters: 7}, entry(6, 2, "a"), votes(7, 3, 3), entry(8, 4, "c"))
		for range 2 {
			g.Reset(s)
			stands(t, "Reset", g, s)
		}
		if s.Index < top {
			x := entry(s.Index+1, 9, "behind")
			if at := g.Merge([]api.Entry{x}); at != x.Index {
				t.Errorf("Merge behind it: %d", at)
			}
			stands(t, "Reset, Merge", g, s, x)
		}
	}
}

// P9.3, P1: of a nil one: 0, false, none, and ErrArg of Compact.
func TestNil(t *testing.T) {
	var g *logs.Log
	for _, i := range []uint64{0, 1, top} {
		term, is := g.Term(i)
		x, has := g.Entry(i)
		v, at := g.Voters()
		if g.Base() != 0 || g.Last() != 0 || g.LastTerm() != 0 || term != 0 || is || has || !reflect.DeepEqual(x, api.Entry{}) || v != 0 || at != 0 || g.VotersAt(i) != 0 {
			t.Errorf("at %d it tells something", i)
		}
		if len(g.From(i, 9)) > 0 || g.Put(i, api.Plain, []byte("x")) != 0 || g.Fit(i, 0) || g.Newer(i, i) {
			t.Errorf("at %d it has something", i)
		}
		if g.Merge([]api.Entry{entry(i, 1, "")}) != 0 || g.Merge([]api.Entry{entry(1, 1, "")}) != 0 || g.Merge(nil) != 0 {
			t.Errorf("at %d it merges", i)
		}
		if e := g.Compact(i); e != api.ErrArg {
			t.Errorf("Compact(%d) = %d", i, e)
		}
		g.Reset(api.Snap{Index: i})
	}
}

// Rule of memory: what is handed in isn't changed; an answer is a list of its own, which later calls don't change.
func TestMemory(t *testing.T) {
	room := func(l ...api.Entry) []api.Entry { return append(make([]api.Entry, 0, 16), l...) }
	s := api.Snap{Index: 5, Term: 2}
	first := room(entry(6, 2, "a"), entry(7, 2, "b"), entry(8, 2, "c"))
	was := plain(first)
	g := made(t, s, first...)
	g.Put(2, api.Plain, []byte("d"))
	told, one := g.From(6, 9), g.From(7, 1)
	toldWas, oneWas := plain(told), plain(one)
	with := room(entry(7, 3, "B"), entry(8, 3, "C"))
	withWas := plain(with)
	if at := g.Merge(with); at != 7 {
		t.Fatalf("Merge = %d", at)
	}
	g.Put(3, api.Plain, []byte("D"))
	g.Compact(6)
	g.Put(3, api.Plain, []byte("E"))
	if !same(first, was) || !same(with, withWas) || len(first[:4][3].Data) > 0 || len(with[:3][2].Data) > 0 {
		t.Errorf("what was handed in is %+v, %+v", first[:4], with[:3])
	}
	if !same(told, toldWas) || !same(one, oneWas) {
		t.Errorf("what was answered is %+v, %+v", told, one)
	}
	left := []api.Entry{entry(7, 3, "B"), entry(8, 3, "C"), entry(9, 3, "D"), entry(10, 3, "E")}
	behind := append(g.From(7, 2), entry(9, 9, "!"))
	behind[0] = entry(7, 9, "!")
	stands(t, "an answer's list written over, and grown", g, api.Snap{Index: 6, Term: 2}, left...)
}

// LANGUAGE.md, rule 7: no bytes that were handed in are kept, and an answer's are its own.
func TestDataIsItsOwn(t *testing.T) {
	s := api.Snap{Index: 5, Term: 2}
	first, put, with := []api.Entry{entry(6, 2, "a")}, []byte("b"), []api.Entry{entry(8, 2, "c")}
	g := made(t, s, first...)
	g.Put(2, api.Plain, put)
	g.Merge(with)
	clear(first[0].Data)
	clear(put)
	clear(with[0].Data)
	one, _ := g.Entry(6)
	clear(one.Data)
	clear(g.From(7, 2)[0].Data)
	stands(t, "written over", g, s, entry(6, 2, "a"), entry(7, 2, "b"), entry(8, 2, "c"))
}

// model is a log in the chapter's words: entries by their indices, in a map.
type model struct {
	s    api.Snap
	l    map[uint64]api.Entry
	last uint64
}

func (m *model) put(x api.Entry) {
	m.l[x.Index] = x
	m.last = x.Index
}

func (m *model) merge(l []api.Entry) uint64 {
	for n, x := range l {
		old, is := m.l[x.Index]
		if x.Index <= m.s.Index || is && old.Term == x.Term {
			continue
		}
		if x.Index > m.last+1 {
			return 0
		}
		for i := x.Index; i <= m.last; i++ {
			delete(m.l, i)
		}
		for _, y := range l[n:] {
			m.put(y)
		}
		return x.Index
	}
	return 0
}

func (m *model) compact(i uint64) api.Errno {
	x, is := m.l[i]
	if i == m.s.Index {
		return api.OK
	}
	if !is {
		return api.ErrArg
	}
	for j := m.s.Index + 1; j <= i; j++ {
		if m.l[j].Kind == api.Voters {
			m.s.Voters = logs.Mask(m.l[j].Data)
		}
		delete(m.l, j)
	}
	m.s.Index, m.s.Term = i, x.Term
	return api.OK
}

func (m *model) list() []api.Entry {
	var l []api.Entry
	for i := m.s.Index + 1; i <= m.last; i++ {
		l = append(l, m.l[i])
	}
	return l
}

// draw: an entry of some term and kind.
func draw(r *rand.Rand, i uint64) api.Entry {
	data := make([]byte, r.Intn(10))
	r.Read(data)
	return api.Entry{Index: i, Term: uint64(r.Intn(4)), Kind: byte(r.Intn(3)), Data: data}
}

// P9.1, P9.2, P9.3, P2: calls drawn by lot, held against a plain model.
func TestByLot(t *testing.T) {
	r := rand.New(rand.NewSource(9))
	for range 100 {
		s := api.Snap{Index: uint64(r.Intn(5)), Term: uint64(r.Intn(3)), Voters: uint64(r.Intn(128))}
		g, m := made(t, s), &model{s: s, l: map[uint64]api.Entry{}, last: s.Index}
		for step := range 100 {
			what := fmt.Sprintf("step %d", step)
			switch n := r.Intn(20); {
			case n < 8:
				x := draw(r, m.last+1)
				if i := g.Put(x.Term, x.Kind, x.Data); i != x.Index {
					t.Fatalf("%s: Put = %d, want %d", what, i, x.Index)
				}
				m.put(x)
			case n < 15:
				from := uint64(max(0, int(m.last)-r.Intn(8)+3))
				var l []api.Entry
				for k := range r.Intn(8) {
					x := draw(r, from+uint64(k))
					if old, is := m.l[x.Index]; is && r.Intn(8) > 0 {
						x.Term = old.Term
					}
					l = append(l, x)
				}
				want := m.merge(l)
				if i := g.Merge(l); i != want {
					t.Fatalf("%s: Merge = %d, want %d", what, i, want)
				}
			case n < 19:
				i := uint64(max(0, int(m.s.Index)+r.Intn(6)-1))
				want := m.compact(i)
				if e := g.Compact(i); e != want {
					t.Fatalf("%s: Compact(%d) = %d, want %d", what, i, e, want)
				}
			default:
				s := api.Snap{Index: uint64(r.Intn(int(m.last) + 5)), Term: uint64(r.Intn(3)), Voters: uint64(r.Intn(128)), Data: []byte("s")}
				g.Reset(s)
				m = &model{s: s, l: map[uint64]api.Entry{}, last: s.Index}
			}
			stands(t, what, g, m.s, m.list()...)
			if t.Failed() {
				t.FailNow()
			}
		}
	}
}
