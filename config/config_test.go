package config_test

import (
	"math"
	"slices"
	"testing"

	"dumbwaiter/api"
	"dumbwaiter/config"
	"dumbwaiter/number"
)

var (
	negZero = math.Copysign(0, -1)
	inf     = math.Inf(1)
	nan     = math.NaN()
)

// oddNaN: a NaN of other bits than math.NaN's, which is the same number.
func oddNaN() float64 { return math.Float64frombits(0xfff0000000000001) }

// some: a config of a diamond of labels and three shards.
func some() api.Config {
	return api.Config{Up: []uint64{15, 10, 12, 8}, Nodes: 3, Cuts: []float64{0, 10}, Frame: 128, Depth: 8, Quota: 1000, Wide: 8, Beat: 2, Elect: 4}
}

func made(t *testing.T, c api.Config) *config.Plan {
	t.Helper()
	p, e := config.New(c)
	if e != api.OK || p == nil {
		t.Fatalf("New(%v): %v, %d", c, p, e)
	}
	return p
}

// sameCuts: are they the same, -0 apart from 0, all NaNs as one?
func sameCuts(a, b []float64) bool { return slices.EqualFunc(a, b, number.Same) }

// P4.1: each number at its bounds works, one beyond is ErrArg.
func TestNewBounds(t *testing.T) {
	for _, c := range []struct {
		name     string
		set      func(c *api.Config, n int)
		from, to int
	}{
		{"Nodes", func(c *api.Config, n int) { c.Nodes = n }, 1, api.MaxNodes},
		{"Frame", func(c *api.Config, n int) { c.Frame = n }, api.MinFrame, api.MaxFrame},
		{"Depth", func(c *api.Config, n int) { c.Depth = n }, 1, 65536},
		{"Quota", func(c *api.Config, n int) { c.Quota = n }, 1, 1 << 28},
		{"Wide", func(c *api.Config, n int) { c.Wide = n }, 0, api.MaxValue},
		{"Beat", func(c *api.Config, n int) { c.Beat, c.Elect = n, 1000 }, 1, 999},
		{"Elect", func(c *api.Config, n int) { c.Beat, c.Elect = 7, n }, 8, 1000},
	} {
		for _, n := range []int{c.from, c.from + 1, c.to - 1, c.to} {
			k := some()
			c.set(&k, n)
			if p, e := config.New(k); e != api.OK || p == nil {
				t.Errorf("%s %d: %v, %d", c.name, n, p, e)
			}
		}
		for _, n := range []int{c.from - 1, c.to + 1, -1, math.MinInt, math.MaxInt} {
			k := some()
			c.set(&k, n)
			if p, e := config.New(k); e != api.ErrArg || p != nil {
				t.Errorf("%s %d: %v, %d", c.name, n, p, e)
			}
		}
	}
	if p, e := config.New(api.Config{}); e != api.ErrArg || p != nil {
		t.Errorf("no config: %v, %d", p, e)
	}
}

// P4.1: cuts: how many, and whether they rise, by the order of layer 1.
func TestNewCuts(t *testing.T) {
	for _, cuts := range [][]float64{
		nil, {}, {0}, {nan}, {-inf}, {negZero, 0}, {-inf, negZero, 0, inf, nan}, {inf, nan}, {inf, oddNaN()},
		{1, 2, 3, 4, 5, 6, 7}, {-inf, -1, negZero, 0, 1, inf, nan},
	} {
		c := some()
		c.Cuts = cuts
		p, e := config.New(c)
		if e != api.OK || p.Shards() != len(cuts)+1 || !sameCuts(p.C.Cuts, cuts) {
			t.Errorf("%v: %v, %d", cuts, p, e)
		}
	}
	for _, cuts := range [][]float64{
		{1, 2, 3, 4, 5, 6, 7, 8}, {1, 2, 3, 4, 5, 6, 7, 8, 9}, make([]float64, 1000),
		{0, 0}, {0, negZero}, {1, 0}, {nan, nan}, {nan, oddNaN()}, {nan, 0}, {nan, inf}, {inf, inf}, {inf, -inf}, {0, 2, 1},
	} {
		c := some()
		c.Cuts = cuts
		if p, e := config.New(c); e != api.ErrArg || p != nil {
			t.Errorf("%v: %v, %d", cuts, p, e)
		}
	}
}

// P4.1: label.New's error of Up, behind all others.
func TestNewLabels(t *testing.T) {
	c := some()
	for _, up := range [][]uint64{nil, {}, make([]uint64, api.MaxLabels+1)} {
		c.Up = up
		if p, e := config.New(c); e != api.ErrArg || p != nil {
			t.Errorf("%x: %v, %d", up, p, e)
		}
	}
	for _, up := range [][]uint64{{0}, {1, 2}, {3, 3}, {7, 2, 4}, {3}} {
		c.Up = up
		if p, e := config.New(c); e != api.ErrLattice || p != nil {
			t.Errorf("%x: %v, %d", up, p, e)
		}
	}
	c.Nodes = 0
	if p, e := config.New(c); e != api.ErrArg || p != nil {
		t.Errorf("no lattice and no nodes: %v, %d", p, e)
	}
	// The limit of labels, with that of shards.
	c = some()
	c.Up = make([]uint64, api.MaxLabels)
	for a := range c.Up {
		c.Up[a] = 0xffff &^ (1<<a - 1)
	}
	c.Cuts = []float64{1, 2, 3, 4, 5, 6, 7}
	if p := made(t, c); p.L0() != 16 || p.Shards() != api.MaxShards || p.Lanes() != 129 || p.Rules() != 128 || p.Lane(15, 7) != 127 {
		t.Error("most labels and shards")
	}
}

// P4.1: C is c, L the lattice; what was handed in isn't changed.
func TestNewHolds(t *testing.T) {
	c := some()
	p := made(t, c)
	d := p.C
	if !slices.Equal(d.Up, c.Up) || d.Nodes != 3 || !sameCuts(d.Cuts, c.Cuts) || d.Frame != 128 || d.Depth != 8 || d.Quota != 1000 || d.Wide != 8 || d.Beat != 2 || d.Elect != 4 {
		t.Errorf("C is %v", d)
	}
	if p.L.Len() != 4 || p.L.Join(1, 2) != 3 || p.L.Meet(1, 2) != 0 {
		t.Error("L")
	}
	k := some()
	if !slices.Equal(c.Up, k.Up) || !sameCuts(c.Cuts, k.Cuts) {
		t.Errorf("changed to %v", c)
	}
	clear(c.Up)
	clear(c.Cuts)
	if !slices.Equal(p.C.Up, k.Up) || !sameCuts(p.C.Cuts, k.Cuts) {
		t.Error("what was handed in is kept")
	}
}

// P4.2: lanes, of labels by shards, and the rules behind them.
func TestLanes(t *testing.T) {
	for _, cuts := range [][]float64{nil, {0}, {0, 10}, {1, 2, 3, 4, 5, 6, 7}} {
		c := some()
		c.Cuts = cuts
		p, n := made(t, c), len(cuts)+1
		if p.Shards() != n || p.L0() != 4 || p.Rules() != 4*n || p.Lanes() != 4*n+1 {
			t.Fatalf("%v: %d shards, %d labels, rules %d, %d lanes", cuts, p.Shards(), p.L0(), p.Rules(), p.Lanes())
		}
		lane := 0
		for a := range 4 {
			if p.Chief(a) != lane {
				t.Errorf("%v: Chief(%d) = %d", cuts, a, p.Chief(a))
			}
			for i := range n {
				if p.Lane(a, i) != lane || p.Label(lane) != a || p.Part(lane) != i {
					t.Errorf("%v: Lane(%d, %d) = %d, Label %d, Part %d", cuts, a, i, p.Lane(a, i), p.Label(lane), p.Part(lane))
				}
				lane++
			}
		}
		if p.Label(lane) != 0 || p.Part(lane) != -1 {
			t.Errorf("%v: of the rules: %d, %d", cuts, p.Label(lane), p.Part(lane))
		}
	}
}

// P4.2: what is no label, no shard, no lane, no node.
func TestNone(t *testing.T) {
	p := made(t, some())
	for _, i := range []int{-1, 4, 5, 100, math.MinInt, math.MaxInt} {
		if p.Lane(i, 0) != -1 || p.Chief(i) != -1 || p.Lane(0, i) != -1 || p.Lane(i, i) != -1 || p.Node(i) {
			t.Errorf("%d is none", i)
		}
	}
	if p.Lane(3, 3) != -1 || p.Lane(3, 2) != 11 || p.Lane(0, 3) != -1 || p.Lane(1, -1) != -1 {
		t.Error("Lane beside its bounds")
	}
	for _, i := range []int{-1, -13, 13, 14, 100, math.MinInt, math.MaxInt} {
		if p.Label(i) != -1 || p.Part(i) != -1 {
			t.Errorf("%d is no lane", i)
		}
	}
}

// P4.2: the rules' label is the lattice's Bottom, whichever number that has.
func TestRulesLabel(t *testing.T) {
	c := some()
	c.Up = []uint64{0b0011, 0b0010, 0b0110, 0b1111}
	if p := made(t, c); p.Label(p.Rules()) != 3 || p.Part(p.Rules()) != -1 {
		t.Errorf("%d", p.Label(p.Rules()))
	}
}

// P4.2: Shard, by the order of layer 1.
func TestShard(t *testing.T) {
	c := some()
	c.Cuts = []float64{-inf, -1, negZero, 0, 1, inf, nan}
	p := made(t, c)
	for _, k := range []struct {
		x    float64
		want int
	}{
		{-inf, 1}, {-math.MaxFloat64, 1}, {-2, 1}, {-1, 2}, {-0.5, 2}, {negZero, 3}, {0, 4}, {0.5, 4}, {1, 5}, {1e300, 5}, {inf, 6}, {nan, 7}, {oddNaN(), 7},
	} {
		if got := p.Shard(k.x); got != k.want {
			t.Errorf("Shard(%v) = %d, not %d", k.x, got, k.want)
		}
	}
	c.Cuts = nil
	if p := made(t, c); p.Shard(-inf) != 0 || p.Shard(nan) != 0 {
		t.Error("one shard")
	}
}

// P4.2: nodes.
func TestNodes(t *testing.T) {
	for n := 1; n <= api.MaxNodes; n++ {
		c := some()
		c.Nodes = n
		p := made(t, c)
		if p.All() != 1<<n-1 {
			t.Errorf("%d nodes: All %b", n, p.All())
		}
		for i := -1; i <= api.MaxNodes; i++ {
			if p.Node(i) != (i >= 0 && i < n) {
				t.Errorf("%d nodes: Node(%d)", n, i)
			}
		}
	}
}

// P4.2: Most.
func TestMost(t *testing.T) {
	for _, c := range []struct {
		some, of uint64
		want     bool
	}{
		{0, 0, false}, {1, 0, false}, {math.MaxUint64, 0, false},
		{0, 1, false}, {1, 1, true}, {2, 1, false},
		{1, 3, false}, {3, 3, true}, {2, 3, false},
		{3, 7, true}, {5, 7, true}, {1, 7, false}, {0xf8, 7, false}, {0xf9, 7, false}, {0xfb, 7, true},
		{3, 15, false}, {7, 15, true}, {math.MaxUint64, 15, true},
		{1<<63 | 1, 1<<63 | 1 | 2, true}, {1 << 63, 1<<63 | 1 | 2, false},
		{math.MaxUint32, math.MaxUint64, false}, {math.MaxUint32 | 1<<32, math.MaxUint64, true}, {math.MaxUint64, math.MaxUint64, true},
	} {
		if got := config.Most(c.some, c.of); got != c.want {
			t.Errorf("Most(%x, %x) = %v", c.some, c.of, got)
		}
	}
}

// P4.2: of a nil one; P1: none panics.
func TestNil(t *testing.T) {
	var p *config.Plan
	for _, i := range []int{-1, 0, 1, math.MinInt, math.MaxInt} {
		if p.Lane(i, 0) != -1 || p.Lane(0, i) != -1 || p.Chief(i) != -1 || p.Label(i) != -1 || p.Part(i) != -1 || p.Node(i) {
			t.Errorf("%d of none", i)
		}
	}
	for _, x := range []float64{-inf, 0, inf, nan} {
		if p.Shard(x) != 0 || p.Span(api.Span{From: x, To: x}) != 0 {
			t.Errorf("%v of none", x)
		}
	}
	if p.Shards() != 0 || p.Lanes() != 1 || p.Rules() != 0 || p.L0() != 0 || p.All() != 0 {
		t.Error("numbers of none")
	}
	x := api.Txn{Gets: []api.Key{{}}, Scans: []api.Span{{}}, Puts: []api.Put{{}}}
	if p.Txn(api.Txn{}) != api.ErrLabel || p.Txn(x) != api.ErrLabel || p.Parts(x) != 0 || p.Rule(api.Rule{To: 1}) {
		t.Error("Txn, Parts, Rule of none")
	}
}

// P1: of one that New didn't make nothing is asked but that it doesn't panic.
func TestEmptyPlan(t *testing.T) {
	for _, p := range []*config.Plan{{}, {C: api.Config{Nodes: -5}}, {C: api.Config{Nodes: math.MaxInt, Cuts: make([]float64, 100)}}} {
		p.Lane(0, 0)
		p.Label(0)
		p.Part(0)
		p.Node(0)
		p.All()
		p.Txn(api.Txn{})
		p.Rule(api.Rule{})
		p.Parts(api.Txn{Puts: []api.Put{{}}})
		p.Span(api.Span{})
	}
}

// gets, scans, puts: so many of each.
func gets(n int) []api.Key   { return make([]api.Key, n) }
func scans(n int) []api.Span { return make([]api.Span, n) }
func value(n int) []byte     { return make([]byte, n) }
func puts(n int) (l []api.Put) {
	for i := range n {
		l = append(l, api.Put{At: float64(i), From: -1})
	}
	return l
}

// P4.3: Txn's labels.
func TestTxnLabel(t *testing.T) {
	p := made(t, some())
	for _, c := range []struct {
		t    api.Txn
		want api.Errno
	}{
		{api.Txn{}, api.OK},
		{api.Txn{Label: 3}, api.OK},
		{api.Txn{Label: 4}, api.ErrLabel},
		{api.Txn{Label: -1}, api.ErrLabel},
		{api.Txn{Label: math.MaxInt}, api.ErrLabel},
		{api.Txn{Label: 1, Gets: []api.Key{{Label: 1}, {Label: 0}}}, api.OK},
		{api.Txn{Label: 1, Scans: []api.Span{{Label: 1}, {Label: 0}}}, api.OK},
		{api.Txn{Label: 1, Gets: []api.Key{{Label: 1}, {Label: 2}}}, api.ErrLabel},
		{api.Txn{Label: 1, Scans: []api.Span{{Label: 0}, {Label: 2}}}, api.ErrLabel},
		{api.Txn{Label: 1, Gets: []api.Key{{Label: 3}}}, api.ErrLabel},
		{api.Txn{Label: 0, Scans: []api.Span{{Label: 1}}}, api.ErrLabel},
		{api.Txn{Label: 3, Gets: []api.Key{{Label: -1}}}, api.ErrLabel},
		{api.Txn{Label: 3, Gets: []api.Key{{Label: 4}}}, api.ErrLabel},
		{api.Txn{Label: 3, Scans: []api.Span{{Label: 4}}}, api.ErrLabel},
		{api.Txn{Label: 4, Gets: []api.Key{{Label: 4}}}, api.ErrLabel},
		{api.Txn{Label: 3, Gets: []api.Key{{Label: 0}, {Label: 1}, {Label: 2}, {Label: 3}}, Scans: []api.Span{{Label: 2}}}, api.OK},
		{api.Txn{Session: math.MaxUint64, Seq: math.MaxUint64, Scans: []api.Span{{From: 5, To: -5}, {From: nan, To: nan}}, Gets: []api.Key{{At: nan}, {At: nan}}}, api.OK},
	} {
		if got := p.Txn(c.t); got != c.want {
			t.Errorf("Txn(%v) = %d, not %d", c.t, got, c.want)
		}
	}
}

// P4.3: Txn's numbers, and values.
func TestTxnForm(t *testing.T) {
	p := made(t, some())
	at := func(l ...float64) (w []api.Put) {
		for _, x := range l {
			w = append(w, api.Put{At: x, From: -1})
		}
		return w
	}
	for _, c := range []struct {
		name string
		t    api.Txn
		want api.Errno
	}{
		{"the most of each", api.Txn{Gets: gets(32), Scans: scans(32), Puts: puts(32)}, api.OK},
		{"too many gets", api.Txn{Gets: gets(33)}, api.ErrArg},
		{"too many scans", api.Txn{Scans: scans(33)}, api.ErrArg},
		{"too many puts", api.Txn{Puts: puts(33)}, api.ErrArg},
		{"far too many", api.Txn{Gets: gets(5000), Scans: scans(5000), Puts: puts(5000)}, api.ErrArg},
		{"two at one", api.Txn{Puts: at(1, 2, 1)}, api.ErrArg},
		{"two at NaN", api.Txn{Puts: at(nan, oddNaN())}, api.ErrArg},
		{"two at infinity", api.Txn{Puts: at(inf, inf)}, api.ErrArg},
		{"two at nought", api.Txn{Puts: at(0, 1, 0)}, api.ErrArg},
		{"both noughts, both infinities, NaN", api.Txn{Puts: at(0, negZero, inf, -inf, nan)}, api.OK},
		{"one written, and deleted", api.Txn{Puts: []api.Put{{At: 1, From: -1}, {At: 1, Del: true, From: -1}}}, api.ErrArg},
		{"of no get", api.Txn{Puts: []api.Put{{From: 0}}}, api.ErrArg},
		{"of the get behind the last", api.Txn{Gets: gets(2), Puts: []api.Put{{From: 2}}}, api.ErrArg},
		{"of the last get", api.Txn{Gets: gets(2), Puts: []api.Put{{From: 1}}}, api.OK},
		{"of a get far away", api.Txn{Gets: gets(2), Puts: []api.Put{{At: 1, From: 1}, {From: math.MaxInt}}}, api.ErrArg},
		{"deleted, of no get", api.Txn{Puts: []api.Put{{Del: true, From: 0}}}, api.ErrArg},
		{"of none", api.Txn{Puts: []api.Put{{From: math.MinInt}}}, api.OK},
		{"the longest value", api.Txn{Puts: []api.Put{{From: -1, Val: value(256)}}}, api.OK},
		{"too long", api.Txn{Puts: []api.Put{{From: -1, Val: value(257)}}}, api.ErrLong},
		{"the second too long", api.Txn{Puts: []api.Put{{At: 1, From: -1}, {From: -1, Val: value(257)}}}, api.ErrLong},
		{"deleted, too long", api.Txn{Puts: []api.Put{{Del: true, From: -1, Val: value(257)}}}, api.ErrLong},
		{"of a get, too long", api.Txn{Gets: gets(1), Puts: []api.Put{{Val: value(257)}}}, api.ErrLong},
	} {
		if got := p.Txn(c.t); got != c.want {
			t.Errorf("%s: %d, not %d", c.name, got, c.want)
		}
	}
}

// P4.3: the first of ErrLabel, ErrArg, ErrLong.
func TestTxnFirst(t *testing.T) {
	p := made(t, some())
	long := []api.Put{{From: 5, Val: value(257)}}
	if e := p.Txn(api.Txn{Label: 4, Puts: long}); e != api.ErrLabel {
		t.Errorf("all of them: %d", e)
	}
	if e := p.Txn(api.Txn{Gets: append(gets(33), api.Key{Label: 1})}); e != api.ErrLabel {
		t.Errorf("too many, the last above: %d", e)
	}
	if e := p.Txn(api.Txn{Scans: append(scans(33), api.Span{Label: 1})}); e != api.ErrLabel {
		t.Errorf("too many scans, the last above: %d", e)
	}
	if e := p.Txn(api.Txn{Puts: long}); e != api.ErrArg {
		t.Errorf("of no get, too long: %d", e)
	}
	if e := p.Txn(api.Txn{Puts: []api.Put{{From: -1, Val: value(257)}, {From: -1}}}); e != api.ErrArg {
		t.Errorf("too long, then twice: %d", e)
	}
}

// P4.3: Rule.
func TestRule(t *testing.T) {
	p := made(t, some())
	for _, c := range []struct {
		r    api.Rule
		want bool
	}{
		{api.Rule{From: 1, To: 0}, true},
		{api.Rule{From: 0, To: 1}, true},
		{api.Rule{From: 1, To: 2}, true},
		{api.Rule{From: 3, To: 0, ID: math.MaxUint64, Authority: math.MaxUint64}, true},
		{api.Rule{}, false},
		{api.Rule{From: 2, To: 2}, false},
		{api.Rule{From: 4, To: 0}, false},
		{api.Rule{From: 0, To: 4}, false},
		{api.Rule{From: -1, To: 0}, false},
		{api.Rule{From: 0, To: -1}, false},
		{api.Rule{From: 1, Lo: 1, Hi: 1}, true},
		{api.Rule{From: 1, Lo: 1, Hi: 2}, true},
		{api.Rule{From: 1, Lo: 2, Hi: 1}, false},
		{api.Rule{From: 1, Lo: negZero, Hi: 0}, true},
		{api.Rule{From: 1, Lo: 0, Hi: negZero}, false},
		{api.Rule{From: 1, Lo: -inf, Hi: nan}, true},
		{api.Rule{From: 1, Lo: nan, Hi: oddNaN()}, true},
		{api.Rule{From: 1, Lo: nan, Hi: inf}, false},
		{api.Rule{From: 1, Quota: 65536}, true},
		{api.Rule{From: 1, Quota: 65537}, false},
		{api.Rule{From: 1, Quota: -1}, false},
		{api.Rule{From: 1, Quota: math.MaxInt}, false},
	} {
		if got := p.Rule(c.r); got != c.want {
			t.Errorf("Rule(%v) = %v", c.r, got)
		}
	}
}

// P4.3: Span, shard by shard.
func TestSpan(t *testing.T) {
	c := some()
	c.Cuts = []float64{-inf, -1, negZero, 0, 1, inf, nan}
	p := made(t, c)
	edges := []float64{-inf, -2, -1, -0.5, negZero, 0, 0.5, 1, 2, inf, nan, oddNaN()}
	for _, from := range edges {
		for _, to := range edges {
			var want uint64
			if !number.Less(to, from) {
				for i := p.Shard(from); i <= p.Shard(to); i++ {
					want |= 1 << i
				}
			}
			for _, a := range []int{0, 3, -1, 99} {
				if got := p.Span(api.Span{Label: a, From: from, To: to}); got != want {
					t.Errorf("Span(%v, %v) = %b, not %b", from, to, got, want)
				}
			}
		}
	}
	if p.Span(api.Span{From: -inf, To: nan}) != 0xfe || p.Span(api.Span{From: nan, To: nan}) != 0x80 || p.Span(api.Span{From: 0, To: negZero}) != 0 {
		t.Error("Span, told out")
	}
	// Within one shard, but the wrong way round.
	if p.Span(api.Span{From: 0.75, To: 0.5}) != 0 {
		t.Error("To ahead of From in one shard")
	}
}

// P4.3: Parts: reads and scans at its own label alone, and all writes.
func TestParts(t *testing.T) {
	p := made(t, some()) // shards: below 0, below 10, the rest
	for _, c := range []struct {
		t    api.Txn
		want uint64
	}{
		{api.Txn{}, 0},
		{api.Txn{Label: 1, Gets: []api.Key{{Label: 1, At: -1}}}, 1},
		{api.Txn{Label: 1, Gets: []api.Key{{Label: 0, At: -1}}}, 0},
		{api.Txn{Label: 1, Gets: []api.Key{{Label: 0, At: -1}, {Label: 1, At: 0}}}, 2},
		{api.Txn{Label: 1, Gets: []api.Key{{Label: 1, At: 11}, {Label: 1, At: -1}}}, 5},
		{api.Txn{Label: 1, Scans: []api.Span{{Label: 1, From: -1, To: 9}}}, 3},
		{api.Txn{Label: 1, Scans: []api.Span{{Label: 0, From: -1, To: 9}}}, 0},
		{api.Txn{Label: 1, Scans: []api.Span{{Label: 1, From: 9, To: -1}}}, 0},
		{api.Txn{Label: 1, Scans: []api.Span{{Label: 1, From: -inf, To: nan}}}, 7},
		{api.Txn{Label: 1, Puts: []api.Put{{At: 10}}}, 4},
		{api.Txn{Label: 1, Puts: []api.Put{{At: 9.5, Del: true}}}, 2},
		{api.Txn{Label: 1, Puts: []api.Put{{At: -1}, {At: nan}}}, 5},
		{api.Txn{Label: 3, Gets: []api.Key{{Label: 3, At: negZero}}, Scans: []api.Span{{Label: 3, From: 0, To: 1}}, Puts: []api.Put{{At: inf}}}, 7},
	} {
		if got := p.Parts(c.t); got != c.want {
			t.Errorf("Parts(%v) = %b, not %b", c.t, got, c.want)
		}
	}
}

// The chapter's example, and that of the whole.
func TestExample(t *testing.T) {
	c := some()
	c.Up, c.Cuts = []uint64{3, 2}, []float64{0}
	p := made(t, c)
	if p.Lanes() != 5 || p.Label(0) != 0 || p.Label(1) != 0 || p.Label(2) != 1 || p.Label(3) != 1 || p.Rules() != 4 {
		t.Error("two labels, one cut")
	}
}

// P2: answers are alike again and again, whatever was asked between.
func TestAlike(t *testing.T) {
	p, q := made(t, some()), made(t, some())
	x := api.Txn{Label: 3, Gets: []api.Key{{Label: 3, At: 4}}, Puts: []api.Put{{At: 12, From: 0}}}
	for range 3 {
		if p.Txn(x) != q.Txn(x) || p.Parts(x) != 6 || q.Parts(x) != 6 {
			t.Error("unlike")
		}
		p.Txn(api.Txn{Label: 9})
		p.Rule(api.Rule{})
	}
	if len(x.Gets) != 1 || x.Gets[0] != (api.Key{Label: 3, At: 4}) || x.Puts[0].At != 12 {
		t.Error("what was handed in is changed")
	}
}
