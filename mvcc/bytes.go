package mvcc

import (
	"dumbwaiter/api"
	"dumbwaiter/number"
	"dumbwaiter/octet"
)

const (
	wide  = 8 // bytes of a Rank, an Epoch, an Index
	count = 4 // bytes that tell how many
)

// Encode: a store as bytes.
func (s *Store) Encode() []byte {
	if s == nil {
		return nil
	}
	w := &octet.Writer{}
	w.Num(uint64(len(s.columns)), count)
	for _, c := range s.columns {
		layColumn(w, c)
	}
	return w.Done()
}

func layColumn(w *octet.Writer, c column) {
	w.Num(c.rank, wide).Num(uint64(len(c.list)), count)
	for _, v := range c.list {
		w.Num(v.Epoch, wide).Num(v.Index, wide).Flag(v.Del).Bytes(v.Val)
	}
}

// Decode: a store of its bytes. ErrForm: Encode makes them of none.
func Decode(p []byte) (*Store, api.Errno) {
	r := octet.Read(p)
	s := New()
	for range r.Count(r.Left()) { // each takes bytes: a count above those left is none, and so makes nothing long
		c := readColumn(r)
		if r.Bad() || !c.right() || !s.ahead(c) {
			return nil, api.ErrForm
		}
		s.columns = append(s.columns, c)
	}
	if !r.End() {
		return nil, api.ErrForm
	}
	return s, api.OK
}

func readColumn(r *octet.Reader) column {
	c := column{rank: r.Num(wide)}
	for range r.Count(r.Left()) {
		c.list = append(c.list, Version{Epoch: r.Num(wide), Index: r.Num(wide), Del: r.Flag(), Val: r.Bytes(api.MaxValue)})
		if r.Bad() {
			break
		}
	}
	return c
}

// right: is a column one that a store may have: has a number its rank, is there a version, do their places rise, and has none with Del a Val?
func (c column) right() bool {
	for n, v := range c.list {
		if v.Del && len(v.Val) > 0 || n > 0 && order(c.list[n-1], v) >= 0 {
			return false
		}
	}
	return len(c.list) > 0 && number.Rank(number.Back(c.rank)) == c.rank
}

// ahead: do all the numbers there are stand ahead of a column's?
func (s *Store) ahead(c column) bool {
	n := len(s.columns)
	return n == 0 || s.columns[n-1].rank < c.rank
}
