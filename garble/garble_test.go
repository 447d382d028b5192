package garble_test

import (
	"bytes"
	"math/rand"
	"testing"

	"dumbwaiter/garble"
)

func TestParts(t *testing.T) {
	got := map[string]int{}
	for _, q := range garble.Parts([]byte("abc")) {
		got[string(q)]++
	}
	if len(got) != 5 || got[""] != 2 || got["a"] != 1 || got["ab"] != 1 || got["bc"] != 1 || got["c"] != 1 || len(garble.Parts(nil)) != 0 {
		t.Errorf("%v", got)
	}
}

func TestTurned(t *testing.T) {
	p := []byte("ab")
	got := map[string]bool{}
	for q := range garble.Turned(p) {
		if len(q) != 2 || (q[0] == 'a') == (q[1] == 'b') {
			t.Errorf("%q", q)
		}
		got[string(q)] = true
	}
	if len(got) != 2*255 || string(p) != "ab" {
		t.Errorf("%d, %q", len(got), p)
	}
	for range garble.Turned(p) {
		break
	}
}

func TestByLot(t *testing.T) {
	g := rand.New(rand.NewSource(1))
	p := []byte("0123456789")
	shorter, longer, turned := 0, 0, 0
	for range 1000 {
		switch q := garble.ByLot(p, g.Intn); {
		case len(q) < len(p):
			shorter++
		case len(q) > len(p):
			longer++
		case !bytes.Equal(q, p):
			turned++
		}
	}
	if string(p) != "0123456789" || shorter < 100 || longer < 100 || turned < 100 {
		t.Errorf("%q, %d, %d, %d", p, shorter, longer, turned)
	}
	if q := garble.ByLot(nil, g.Intn); len(q) != 0 {
		t.Errorf("of nothing: %x", q)
	}
}
