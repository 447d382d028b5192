package locks

import (
	"dumbwaiter/api"
	"dumbwaiter/lay"
	"dumbwaiter/octet"
)

const (
	wide     = 8                // bytes of an Epoch
	count    = 4                // bytes that tell how many
	mostData = api.MaxValue + 1 // a value, and a byte that tells whether there is one
)

// Encode: a table as bytes.
func (t *Table) Encode() []byte {
	if t == nil {
		return nil
	}
	w := &octet.Writer{}
	w.Num(uint64(len(t.holds)), count)
	for _, h := range t.holds {
		Lay(w, h)
	}
	return w.Done()
}

// Decode: a table of its bytes. ErrForm: Encode makes them of none.
func Decode(p []byte) (*Table, api.Errno) {
	r := octet.Read(p)
	t := New()
	for range r.Count(r.Left()) { // each takes bytes: a count above those left is none, and so makes nothing long
		h := Read(r)
		if r.Bad() || !t.ahead(h.ID) || t.Take(h) != api.OK {
			return nil, api.ErrForm
		}
	}
	if !r.End() {
		return nil, api.ErrForm
	}
	return t, api.OK
}

// ahead: do all that hold something stand ahead of a transaction?
func (t *Table) ahead(id api.ID) bool {
	n := len(t.holds)
	return n == 0 || order(t.holds[n-1].ID, id) < 0
}

// Lay: what a transaction holds, as bytes.
func Lay(w *octet.Writer, h api.Hold) {
	lay.ID(w, h.ID)
	w.Num(h.Epoch, wide)
	layNumbers(w, h.Gets)
	w.Num(uint64(len(h.Scans)), count)
	for _, s := range h.Scans {
		lay.Number(w, s[0])
		lay.Number(w, s[1])
	}
	layNumbers(w, h.Puts)
	w.Bytes(h.Data)
}

func layNumbers(w *octet.Writer, l []float64) {
	w.Num(uint64(len(l)), count)
	for _, x := range l {
		lay.Number(w, x)
	}
}

// Read: what a transaction holds, of its bytes. At a fault nothing.
func Read(r *octet.Reader) api.Hold {
	h := api.Hold{ID: lay.ReadID(r), Epoch: r.Num(wide)}
	h.Gets = readNumbers(r)
	for range r.Count(api.MaxOps) {
		h.Scans = append(h.Scans, [2]float64{lay.ReadNumber(r), lay.ReadNumber(r)})
	}
	h.Puts = readNumbers(r)
	h.Data = r.Bytes(mostData)
	if r.Bad() {
		return api.Hold{}
	}
	return h
}

func readNumbers(r *octet.Reader) []float64 {
	var l []float64
	for range r.Count(api.MaxOps) {
		l = append(l, lay.ReadNumber(r))
	}
	return l
}
