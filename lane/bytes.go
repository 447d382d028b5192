package lane

import (
	"maps"
	"slices"

	"dumbwaiter/api"
	"dumbwaiter/lay"
	"dumbwaiter/locks"
	"dumbwaiter/mvcc"
	"dumbwaiter/octet"
	"dumbwaiter/policy"
	"dumbwaiter/session"
)

const (
	word  = 8 // bytes of a number
	count = 4 // bytes that tell how many
)

// Encode: a state as bytes. They are sealed, so that bytes that were changed are taken for no state's.
func (s *State) Encode() []byte {
	if s == nil {
		return nil
	}
	w := &octet.Writer{}
	w.Num(s.epoch, word).Num(uint64(s.wide), word)
	w.Bytes(s.held.Encode()).Bytes(s.stands.Encode()).Bytes(s.answered.Encode()).Bytes(s.rules.Encode())
	s.layOpen(w)
	s.layOut(w)
	return octet.Seal(w.Done())
}

func (s *State) layOpen(w *octet.Writer) {
	w.Num(uint64(len(s.open)), count)
	for _, d := range s.open {
		lay.ID(w, d.ID)
		w.Num(uint64(d.E), word).Num(d.Epoch, word).Num(d.Index, word).Num(d.Shards, word)
		w.Num(uint64(len(d.Parts)), count)
		for _, x := range d.Parts {
			w.Num(uint64(x.Shard), word)
			lay.Writes(w, x.Writes)
		}
	}
}

// layOut: what was released, label by label. N isn't laid, as it is told by the order.
func (s *State) layOut(w *octet.Writer) {
	var all []api.Item
	for _, to := range slices.Sorted(maps.Keys(s.out)) {
		all = append(all, s.out[to]...)
	}
	w.Num(uint64(len(all)), count)
	for _, x := range all {
		w.Num(uint64(x.To), word).Num(x.Rule, word).Num(x.Epoch, word)
		lay.Write(w, x.W)
	}
}

// Decode: a state of its bytes. ErrForm: Encode makes them of none.
func Decode(p []byte) (*State, api.Errno) {
	p, sealed := octet.Open(p)
	r := octet.Read(p)
	s := New(0)
	s.epoch, s.wide = r.Num(word), int(r.Num(word))
	held, stands, answered, rules := api.OK, api.OK, api.OK, api.OK
	s.held, held = locks.Decode(r.Bytes(r.Left()))
	s.stands, stands = mvcc.Decode(r.Bytes(r.Left()))
	s.answered, answered = session.Decode(r.Bytes(r.Left()))
	s.rules, rules = policy.Decode(r.Bytes(r.Left()))
	var none [5]api.Errno // OK of each part
	if [...]api.Errno{sealed, held, stands, answered, rules} != none {
		return nil, api.ErrForm
	}
	if s.epoch == 0 || s.wide < 0 || !s.holdsRight() || !s.readOpen(r) || !s.readOut(r) || !r.End() {
		return nil, api.ErrForm
	}
	return s, api.OK
}

// holdsRight: is all that is held of the open epoch? What is released may be of a later one. (An earlier one isn't closed while somebody holds something of it.)
func (s *State) holdsRight() bool {
	return !slices.ContainsFunc(s.held.All(), func(id api.ID) bool {
		h, _ := s.held.Get(id)
		return h.Epoch < s.epoch || h.Epoch > s.epoch && id.Session < Inner
	})
}

// readOpen: reads what is open; false: it may not be so.
func (s *State) readOpen(r *octet.Reader) bool {
	for range r.Count(r.Left()) { // each takes bytes: a count above those left is none, and so makes nothing long
		d := readDecision(r)
		if r.Bad() || !s.openRight(d) {
			return false
		}
		s.open = append(s.open, d)
	}
	return !r.Bad()
}

func readDecision(r *octet.Reader) api.Decision {
	d := api.Decision{
		ID: lay.ReadID(r), E: api.Errno(r.Num(word)),
		Epoch: r.Num(word), Index: r.Num(word), Shards: r.Num(word),
	}
	for range r.Count(r.Left()) {
		d.Parts = append(d.Parts, api.Part{Shard: int(r.Num(word)), Writes: lay.ReadWrites(r, r.Left(), r.Left())})
		if r.Bad() {
			break
		}
	}
	return d
}

// openRight: may a decision be open, behind those that are read already?
func (s *State) openRight(d api.Decision) bool {
	n := len(s.open)
	if n > 0 && order(s.open[n-1].ID, d.ID) >= 0 || d.Shards == 0 {
		return false
	}
	if d.E == api.OK {
		return s.begun(d.Epoch) && s.wasAnswered(d)
	}
	return len(d.Parts) == 0 && d.ID.Session < Inner && s.wasAnswered(d)
}

// wasAnswered: was a decision told as its session's answer? Of the last one alone that is still known.
func (s *State) wasAnswered(d api.Decision) bool {
	x, e := s.Answer(d.ID)
	return e == api.OK && x.E == d.E && x.Epoch == d.Epoch && x.Index == d.Index || e == api.ErrOld && d.ID.Seq > 0
}

// begun: is an epoch the open one, or an earlier one that was open?
func (s *State) begun(epoch uint64) bool { return 1 <= epoch && epoch <= s.epoch }

// readOut: reads what was released; false: it may not be so.
func (s *State) readOut(r *octet.Reader) bool {
	var last api.Item
	for n := range r.Count(r.Left()) {
		x := api.Item{To: int(r.Num(word)), Rule: r.Num(word), Epoch: r.Num(word), W: lay.ReadWrite(r, r.Left())}
		if r.Bad() || n > 0 && !ahead(last, x) || !s.outRight(x) {
			return false
		}
		s.release(x)
		last = x
	}
	return !r.Bad()
}

// ahead: may something that was released stand ahead of another one: is its label ahead, or, of one label, its epoch not behind?
func ahead(a, b api.Item) bool { return a.To < b.To || a.To == b.To && a.Epoch <= b.Epoch }

// outRight: may such a thing have been released?
func (s *State) outRight(x api.Item) bool {
	return s.begun(x.Epoch) && len(x.W.Val) <= s.wide && !(x.W.Del && len(x.W.Val) > 0)
}
