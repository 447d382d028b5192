// Package garble makes wrong bytes of right ones, for the tests of all that reads bytes.
package garble

import (
	"bytes"
	"iter"
	"slices"
)

// Parts: all shorter parts that begin where the bytes do, or end where they do.
func Parts(p []byte) [][]byte {
	var l [][]byte
	for n := range p {
		l = append(l, bytes.Clone(p[:n]), bytes.Clone(p[n+1:]))
	}
	return l
}

// Turned: the bytes with just one of them another one, each of them each other one.
func Turned(p []byte) iter.Seq[[]byte] {
	return func(yield func([]byte) bool) {
		for n := range p {
			for add := 1; add < 256; add++ {
				q := bytes.Clone(p)
				q[n] += byte(add)
				if !yield(q) {
					return
				}
			}
		}
	}
}

// ByLot: the bytes with some bits turned, bytes made small, gone, or there once more. draw tells a number from 0 on and below another one.
func ByLot(p []byte, draw func(below int) int) []byte {
	q := bytes.Clone(p)
	for range 1 + draw(4) {
		if len(q) == 0 {
			break
		}
		switch n := draw(len(q)); draw(4) {
		case 0:
			q[n] ^= 1 << draw(8)
		case 1:
			q[n] = byte(draw(4))
		case 2:
			q = slices.Delete(q, n, min(len(q), n+1+draw(12)))
		case 3:
			q = slices.Insert(q, n, p[draw(len(p)):]...)
		}
	}
	return q
}
