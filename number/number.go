// Package number is layer 1: numbers of 64 bits that float, in one order. See shared/doc/01-number.md.
package number

import (
	"math"
	"strconv"
)

// sign is the highest bit of a float64.
const sign uint64 = 1 << 63

// nanRank is the one rank that all NaNs have: behind every other.
const nanRank uint64 = math.MaxUint64

// Rank: a number that stands for a float64, in the order of all of them: from the least infinity on, -0 ahead of 0, up to the greatest infinity, and behind it what is no number, all of that as one.
func Rank(x float64) uint64 {
	if math.IsNaN(x) {
		return nanRank
	}
	b := math.Float64bits(x)
	if b&sign != 0 {
		return ^b
	}
	return b | sign
}

// Back: the float64 that a number stands for; NaN, if it stands for none.
func Back(n uint64) float64 {
	b := ^n
	if n&sign != 0 {
		b = n &^ sign
	}
	x := math.Float64frombits(b)
	if math.IsNaN(x) {
		return math.NaN() // all NaNs are one, so no other bits of one are handed out
	}
	return x
}

// Less: does x stand ahead of y in the order of all float64s?
func Less(x, y float64) bool { return Rank(x) < Rank(y) }

// Same: do x and y stand at one place in the order of all float64s?
func Same(x, y float64) bool { return Rank(x) == Rank(y) }

// Within: does a number stand between two, or at one of them?
func Within(x, from, to float64) bool { return !Less(x, from) && !Less(to, x) }

// Meet: have the spans from a to b and from c to d a number in common?
func Meet(a, b, c, d float64) bool {
	// The greater beginning is in both spans, if anything is.
	return max(Rank(a), Rank(c)) <= min(Rank(b), Rank(d))
}

// Shard: how many of some cuts, which rise, stand at a number, or below it.
func Shard(cuts []float64, x float64) int {
	n := 0
	for _, c := range cuts {
		if !Less(x, c) {
			n++
		}
	}
	return n
}

// Rising: does each number stand ahead of the next one?
func Rising(l []float64) bool {
	for i := 1; i < len(l); i++ {
		if !Less(l[i-1], l[i]) {
			return false
		}
	}
	return true
}

// Unit: a number held to 0 and up to 1, but not 1: what is none, or below 0, is 0.
func Unit(x float64) float64 {
	const belowOne = 1 - 1.0/(1<<53)
	if x > 0 {
		return min(x, belowOne)
	}
	return 0 // NaN is above nothing, and -0 isn't above 0: both come here
}

// Draw: one of n numbers, from 0 on, by a drawn one.
func Draw(x float64, n int) int {
	if n < 1 {
		return 0
	}
	return min(int(Unit(x)*float64(n)), n-1)
}

// Text: a number as a text.
func Text(x float64) string {
	switch {
	case math.IsNaN(x):
		return "nan"
	case math.IsInf(x, 1):
		return "inf"
	case math.IsInf(x, -1):
		return "-inf"
	}
	return strconv.FormatFloat(x, 'g', -1, 64)
}

// Read: the number whose Text is s; false: there is none.
func Read(s string) (float64, bool) {
	x, err := strconv.ParseFloat(s, 64)
	if err != nil || Text(x) != s { // strconv reads many texts of one number, and only one of them is its Text
		return 0, false
	}
	return x, true
}
