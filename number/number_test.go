package number_test

import (
	"math"
	"math/rand"
	"strconv"
	"testing"

	"dumbwaiter/number"
)

var (
	negZero  = math.Copysign(0, -1)
	belowOne = math.Nextafter(1, 0)
	inf      = math.Inf(1)
	nan      = math.NaN()
)

// ordered: the edges of the order and some between them, as P1.1 orders them.
var ordered = []float64{
	-inf, -math.MaxFloat64, -1e308, -3, -1, -belowOne, -0x1p-1022, -math.SmallestNonzeroFloat64,
	negZero, 0,
	math.SmallestNonzeroFloat64, 0x1p-1022, 0.1, 0.5, belowOne, 1, math.Nextafter(1, 2), 3, 1e6, 1e308, math.MaxFloat64, inf,
	nan,
}

// oddNaNs: NaNs of other bits, of both signs.
func oddNaNs() []float64 {
	return []float64{
		math.Float64frombits(0x7ff0000000000001), math.Float64frombits(0x7fffffffffffffff),
		math.Float64frombits(0xfff0000000000001), math.Float64frombits(0xffffffffffffffff),
		math.Float64frombits(0xfff8000000000000),
	}
}

// sameBits: are they the very same number, -0 apart from 0, all NaNs as one?
func sameBits(x, y float64) bool {
	return math.IsNaN(x) && math.IsNaN(y) || math.Float64bits(x) == math.Float64bits(y)
}

// drawn: many numbers of arbitrary bits, the same at each run.
func drawn(n int) []float64 {
	r := rand.New(rand.NewSource(1))
	l := append([]float64(nil), ordered...)
	for range n {
		l = append(l, math.Float64frombits(r.Uint64()), r.Float64(), float64(r.Intn(2000)-1000))
	}
	return append(l, oddNaNs()...)
}

// P1.1
func TestRankOfEdges(t *testing.T) {
	for _, c := range []struct {
		x    float64
		want uint64
	}{
		{-inf, 0x000fffffffffffff},
		{-math.MaxFloat64, 0x0010000000000000},
		{-1, 0x400fffffffffffff},
		{-math.SmallestNonzeroFloat64, 0x7ffffffffffffffe},
		{negZero, 0x7fffffffffffffff},
		{0, 0x8000000000000000},
		{math.SmallestNonzeroFloat64, 0x8000000000000001},
		{1, 0xbff0000000000000},
		{math.MaxFloat64, 0xffefffffffffffff},
		{inf, 0xfff0000000000000},
		{nan, math.MaxUint64},
	} {
		if got := number.Rank(c.x); got != c.want {
			t.Errorf("Rank(%v) = %x, want %x", c.x, got, c.want)
		}
	}
	for _, x := range oddNaNs() {
		if got := number.Rank(x); got != math.MaxUint64 {
			t.Errorf("Rank of NaN %x = %x", math.Float64bits(x), got)
		}
	}
}

// P1.1
func TestBack(t *testing.T) {
	for _, x := range drawn(2000) {
		if got := number.Back(number.Rank(x)); !sameBits(got, x) {
			t.Errorf("Back(Rank(%v)) = %v", x, got)
		}
	}
	for _, n := range []uint64{0, 1, 0x000ffffffffffffe, 0xfff0000000000001, math.MaxUint64 - 1, math.MaxUint64} {
		if got := number.Back(n); !math.IsNaN(got) {
			t.Errorf("Back(%x) = %v, want NaN", n, got)
		}
	}
	if number.Back(0x000fffffffffffff) != -inf || number.Back(0xfff0000000000000) != inf {
		t.Error("Back of the infinities' ranks")
	}
}

// P1.1
func TestLessAndSame(t *testing.T) {
	for i, x := range ordered {
		for k, y := range ordered {
			if got := number.Less(x, y); got != (i < k) {
				t.Errorf("Less(%v, %v) = %v", x, y, got)
			}
			if got := number.Same(x, y); got != (i == k) {
				t.Errorf("Same(%v, %v) = %v", x, y, got)
			}
		}
	}
	for _, x := range oddNaNs() {
		if !number.Same(x, nan) || number.Less(x, nan) || number.Less(nan, x) || !number.Less(inf, x) || !number.Less(-inf, x) {
			t.Errorf("NaN %x isn't as all NaNs", math.Float64bits(x))
		}
	}
}

// P1.1
func TestWithin(t *testing.T) {
	for i, x := range ordered {
		for a, from := range ordered {
			for b, to := range ordered {
				if got := number.Within(x, from, to); got != (a <= i && i <= b) {
					t.Errorf("Within(%v, %v, %v) = %v", x, from, to, got)
				}
			}
		}
	}
}

// P1.1: held against going through all numbers that could be in both spans.
func TestMeet(t *testing.T) {
	l := []float64{-inf, -1, negZero, 0, 1, inf, nan}
	for _, a := range l {
		for _, b := range l {
			for _, c := range l {
				for _, d := range l {
					want := false
					for _, x := range l {
						want = want || number.Within(x, a, b) && number.Within(x, c, d)
					}
					if got := number.Meet(a, b, c, d); got != want {
						t.Errorf("Meet(%v, %v, %v, %v) = %v", a, b, c, d, got)
					}
				}
			}
		}
	}
}

// P1.1
func TestShard(t *testing.T) {
	for i, x := range ordered {
		if got := number.Shard(ordered, x); got != i+1 {
			t.Errorf("Shard at the cut %v = %d, want %d", x, got, i+1)
		}
		if got := number.Shard(nil, x); got != 0 {
			t.Errorf("Shard without cuts = %d", got)
		}
	}
	cuts := []float64{0, 5}
	for _, c := range []struct {
		x    float64
		want int
	}{{-inf, 0}, {negZero, 0}, {0, 1}, {math.Nextafter(5, 0), 1}, {5, 2}, {6, 2}, {inf, 2}, {nan, 2}} {
		if got := number.Shard(cuts, c.x); got != c.want {
			t.Errorf("Shard(0 5, %v) = %d, want %d", c.x, got, c.want)
		}
	}
}

// P1.1
func TestRising(t *testing.T) {
	for _, c := range []struct {
		l    []float64
		want bool
	}{
		{nil, true}, {[]float64{}, true}, {[]float64{nan}, true}, {ordered, true},
		{[]float64{negZero, 0}, true}, {[]float64{0, negZero}, false}, {[]float64{0, 0}, false},
		{[]float64{inf, nan}, true}, {[]float64{nan, nan}, false}, {[]float64{nan, 1}, false},
		{[]float64{1, 2, 3, 3}, false}, {[]float64{2, 1, 3}, false}, {[]float64{1, 3, 2}, false},
	} {
		if got := number.Rising(c.l); got != c.want {
			t.Errorf("Rising(%v) = %v", c.l, got)
		}
	}
}

// P1.2
func TestUnit(t *testing.T) {
	for _, c := range []struct{ x, want float64 }{
		{nan, 0}, {-inf, 0}, {-1, 0}, {-math.SmallestNonzeroFloat64, 0}, {negZero, 0}, {0, 0},
		{math.SmallestNonzeroFloat64, math.SmallestNonzeroFloat64}, {0.25, 0.25}, {belowOne, belowOne},
		{1, belowOne}, {math.Nextafter(1, 2), belowOne}, {2, belowOne}, {math.MaxFloat64, belowOne}, {inf, belowOne},
	} {
		if got := number.Unit(c.x); !sameBits(got, c.want) {
			t.Errorf("Unit(%v) = %v, want %v", c.x, got, c.want)
		}
	}
	for _, x := range oddNaNs() {
		if got := number.Unit(x); !sameBits(got, 0) {
			t.Errorf("Unit(NaN) = %v", got)
		}
	}
}

// P1.2
func TestDraw(t *testing.T) {
	for _, c := range []struct {
		x    float64
		n    int
		want int
	}{
		{0.5, 10, 5}, {nan, 10, 0}, {0, 10, 0}, {negZero, 10, 0}, {-3, 10, 0}, {-inf, 10, 0},
		{math.Nextafter(0.5, 0), 2, 0}, {0.5, 2, 1}, {0.99, 10, 9}, {0.25, 7, 1},
		{belowOne, 10, 9}, {1, 10, 9}, {2, 4, 3}, {inf, 4, 3}, {1, 1, 0}, {0.9, 1, 0},
		{0.5, 0, 0}, {0.5, -1, 0}, {0.5, math.MinInt, 0}, {inf, 0, 0},
		{0.5, math.MaxInt, 1 << 62},
	} {
		if got := number.Draw(c.x, c.n); got != c.want {
			t.Errorf("Draw(%v, %d) = %d, want %d", c.x, c.n, got, c.want)
		}
	}
	for _, x := range drawn(500) {
		for _, n := range []int{1, 2, 3, 10, 1000, 1<<53 + 1, 1<<53 + 3, math.MaxInt - 1, math.MaxInt} {
			if got := number.Draw(x, n); got < 0 || got > n-1 {
				t.Errorf("Draw(%v, %d) = %d", x, n, got)
			}
		}
	}
}

// P1.2
func TestText(t *testing.T) {
	for _, c := range []struct {
		x    float64
		want string
	}{
		{nan, "nan"}, {inf, "inf"}, {-inf, "-inf"}, {0, "0"}, {negZero, "-0"}, {0.1, "0.1"}, {-2.5, "-2.5"},
		{1e5, "100000"}, {1e6, "1e+06"}, {1234567, "1.234567e+06"}, {1e-5, "1e-05"}, {0.0001, "0.0001"},
		{1, "1"}, {belowOne, "0.9999999999999999"}, {math.SmallestNonzeroFloat64, "5e-324"}, {math.MaxFloat64, "1.7976931348623157e+308"},
	} {
		if got := number.Text(c.x); got != c.want {
			t.Errorf("Text(%v) = %s, want %s", c.x, got, c.want)
		}
	}
	for _, x := range oddNaNs() {
		if got := number.Text(x); got != "nan" {
			t.Errorf("Text(NaN) = %s", got)
		}
	}
	for _, x := range drawn(1000) {
		if !math.IsNaN(x) && !math.IsInf(x, 0) && number.Text(x) != strconv.FormatFloat(x, 'g', -1, 64) {
			t.Errorf("Text(%v) = %s", x, number.Text(x))
		}
	}
}

// P1.2
func TestRead(t *testing.T) {
	for _, x := range drawn(2000) {
		got, ok := number.Read(number.Text(x))
		if !ok || !sameBits(got, x) {
			t.Errorf("Read(%s) = %v, %v", number.Text(x), got, ok)
		}
	}
	for _, s := range []string{
		"", " ", "1 ", " 1", "x", "1x", "1,5", "1\n", "é", "\xff", "\x00",
		"NaN", "NAN", "-nan", "+nan", "Inf", "INF", "+inf", "+Inf", "-Inf", "infinity", "-infinity",
		"+1", "01", "1.", ".5", "1.0", "0.10", "-0.0", "+0", "00", "-00", "--1",
		"1e6", "1E+06", "1e+6", "1e+006", "1000000", "1e0", "0e0", "1e+0",
		"0x1p+0", "0x10", "1_000", "1e999", "-1e999", "1e-999", "1e", "e5",
		"0.1000000000000000055511151231257827", "0.10000000000000001",
	} {
		if got, ok := number.Read(s); ok || !sameBits(got, 0) {
			t.Errorf("Read(%q) = %v, %v, want none", s, got, ok)
		}
	}
}

// P2: what was asked before is not to be seen, and lists that are handed in stay as they are.
func TestAnswersHangOnArgumentsAlone(t *testing.T) {
	l := append([]float64(nil), ordered...)
	for range 2 {
		if number.Shard(l, 0) != 10 || !number.Rising(l) || number.Draw(0.3, 10) != 3 || number.Text(2) != "2" {
			t.Fatal("an answer has changed")
		}
	}
	for i, x := range ordered {
		if !sameBits(l[i], x) {
			t.Errorf("the list was changed at %d", i)
		}
	}
}
