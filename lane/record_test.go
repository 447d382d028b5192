package lane_test

import (
	"math"
	"sort"

	"dumbwaiter/api"
	"dumbwaiter/command"
	"dumbwaiter/lane"
	"dumbwaiter/number"
)

// record is a state as the chapters' words tell it, in plain lists and maps, by no layer's calls but number's.
type record struct {
	wide    int
	epoch   uint64
	holds   map[api.ID]api.Hold
	stood   []standing
	answers map[uint64]answer
	rules   []granted
	open    map[api.ID]api.Decision
	gifts   []api.Item // of all labels
}

type standing struct {
	w            api.Write
	epoch, index uint64
}

type answer struct {
	seq uint64
	r   api.Reply
}

type granted struct {
	r           api.Rule
	from, until uint64
}

func newRecord(wide int) *record {
	return &record{wide: wide, epoch: 1, holds: map[api.ID]api.Hold{}, answers: map[uint64]answer{}, open: map[api.ID]api.Decision{}}
}

func (m *record) apply(index uint64, c api.Command) api.Effect {
	switch c.Kind {
	case command.Close:
		return m.close(c.Epoch)
	case command.Prepare:
		if e := m.hold(c.Hold); e != api.OK {
			return voted(c.Hold.ID, api.Reply{E: e})
		}
		return voted(c.Hold.ID, m.told(c.Hold))
	case command.Finish:
		if _, ok := m.holds[c.ID]; ok && c.E == api.OK {
			for _, w := range c.Writes {
				m.put(standing{w, c.Epoch, c.Index})
			}
		}
		delete(m.holds, c.ID)
		return finished(c.ID)
	case command.Decide:
		return m.decide(index, c)
	case command.Forget:
		delete(m.open, c.ID)
	case command.Grant:
		for n := range m.rules {
			if m.rules[n].r.ID == c.Rule.ID && m.rules[n].until == 0 {
				m.rules[n].until = m.epoch
			}
		}
		if c.On {
			m.rules = append(m.rules, granted{c.Rule, m.epoch, 0})
		}
	case command.Give:
		return m.give(index, c)
	}
	return nothing
}

func (m *record) may() bool {
	for _, h := range m.holds {
		if h.Epoch <= m.epoch {
			return false
		}
	}
	return true
}

func (m *record) close(epoch uint64) api.Effect {
	if epoch != m.epoch || !m.may() {
		return nothing
	}
	m.epoch++
	if m.epoch > lane.Keep+1 {
		m.trim(m.epoch - 1 - lane.Keep)
	}
	return closed
}

// trim: of each number, what stood ahead of the last that stood at the end of an epoch is gone; and that one, if it was a Del.
func (m *record) trim(epoch uint64) {
	var l []standing
	for _, x := range m.stood {
		last, ok := m.last(x.w.At, epoch)
		if !ok || behind(x, last) || !behind(last, x) && !x.w.Del {
			l = append(l, x)
		}
	}
	m.stood = l
}

func behind(a, b standing) bool {
	return a.epoch > b.epoch || a.epoch == b.epoch && a.index > b.index
}

// last: the last that was written at a number till the end of an epoch.
func (m *record) last(at float64, epoch uint64) (standing, bool) {
	var found standing
	ok := false
	for _, x := range m.stood {
		if number.Same(x.w.At, at) && x.epoch <= epoch && (!ok || behind(x, found)) {
			found, ok = x, true
		}
	}
	return found, ok
}

func (m *record) put(x standing) {
	for n, y := range m.stood {
		if number.Same(x.w.At, y.w.At) && !behind(x, y) && !behind(y, x) {
			m.stood[n] = x
			return
		}
	}
	m.stood = append(m.stood, x)
}

func (m *record) get(at float64, epoch uint64) api.Got {
	if x, ok := m.last(at, epoch); ok && !x.w.Del {
		return api.Got{Has: true, Val: x.w.Val}
	}
	return api.Got{}
}

func (m *record) scan(from, to float64, epoch uint64) []api.Pair {
	all := map[uint64]api.Pair{}
	for _, x := range m.stood {
		if g := m.get(x.w.At, epoch); g.Has && number.Within(x.w.At, from, to) {
			all[number.Rank(x.w.At)] = api.Pair{At: x.w.At, Val: g.Val}
		}
	}
	var l []api.Pair
	for _, x := range all {
		l = append(l, x)
	}
	sort.Slice(l, func(a, b int) bool { return number.Less(l[a].At, l[b].At) })
	return l[:min(len(l), api.MaxScan)]
}

func (m *record) told(h api.Hold) api.Reply {
	var r api.Reply
	for _, x := range h.Gets {
		r.Gots = append(r.Gots, m.get(x, math.MaxUint64))
	}
	for _, x := range h.Scans {
		r.Scans = append(r.Scans, m.scan(x[0], x[1], math.MaxUint64))
	}
	return r
}

func (m *record) hold(h api.Hold) api.Errno {
	was, ok := m.holds[h.ID]
	switch {
	case ok && text(was) == text(h):
		return api.OK
	case ok && h.ID.Session < lane.Inner, ok && h.Epoch <= was.Epoch:
		return api.ErrConflict
	case !ok && h.Epoch != m.epoch:
		return api.ErrEpoch
	}
	for _, o := range m.holds {
		if o.ID != h.ID && (writesInto(o, h) || writesInto(h, o)) {
			return api.ErrConflict
		}
	}
	m.holds[h.ID] = h
	return api.OK
}

// writesInto: does one write what the other one reads, or writes?
func writesInto(a, b api.Hold) bool {
	for _, x := range a.Puts {
		for _, y := range append(append([]float64{}, b.Gets...), b.Puts...) {
			if number.Same(x, y) {
				return true
			}
		}
		for _, y := range b.Scans {
			if number.Within(x, y[0], y[1]) {
				return true
			}
		}
	}
	return false
}

// settle: an answer is a session's last one; false: it can't be; with what is told then.
func (m *record) settle(x api.ID, r api.Reply) (api.Effect, bool) {
	last := m.answers[x.Session].seq
	switch {
	case x.Seq < last:
		return decided(x, api.Reply{E: api.ErrOld}), false
	case x.Seq == last: // 0, if none was answered
		return nothing, false
	}
	m.answers[x.Session] = answer{x.Seq, r}
	return decided(x, r), true
}

func (m *record) decide(index uint64, c api.Command) api.Effect {
	r := settled(c.R, c.Epoch, index)
	if r.E == api.OK && c.Epoch != m.epoch {
		r = at(api.ErrEpoch, c.Epoch, index)
	}
	if r.E != api.OK && c.ID.Session >= lane.Inner {
		return nothing
	}
	f, ok := m.settle(c.ID, r)
	if ok && c.Shards != 0 {
		d := api.Decision{ID: c.ID, E: r.E, Epoch: c.Epoch, Index: index, Shards: c.Shards}
		if r.E == api.OK {
			d.Parts = c.Parts
		}
		m.open[c.ID] = d
	}
	return f
}

func (m *record) give(index uint64, c api.Command) api.Effect {
	r := at(c.R.E, c.Epoch, index)
	of, to := 0, uint64(1)
	for _, x := range m.gifts {
		if x.Rule == c.Rule.ID && x.Epoch == c.Epoch {
			of++
		}
		if x.To == c.Rule.To {
			to++
		}
	}
	switch {
	case r.E != api.OK:
	case c.Epoch != m.epoch:
		r.E = api.ErrEpoch
	case len(c.Writes) != 1:
		r.E = api.ErrArg
	case of >= c.Rule.Quota:
		r.E = api.ErrQuota
	}
	f, ok := m.settle(c.ID, r)
	if ok && r.E == api.OK {
		w := c.Writes[0]
		w.Val = append(append([]byte{}, w.Val...), make([]byte, max(m.wide, 0))...)[:max(m.wide, 0)]
		if w.Del {
			w.Val = nil
		}
		m.gifts = append(m.gifts, api.Item{To: c.Rule.To, N: to, Rule: c.Rule.ID, Epoch: c.Epoch, W: w})
	}
	return f
}

func (m *record) out(to int) []api.Item {
	var l []api.Item
	for _, x := range m.gifts {
		if x.To == to {
			l = append(l, x)
		}
	}
	return l
}

// rule: the rule that held, and Rule's error.
func (m *record) rule(id, epoch uint64) (api.Rule, api.Errno) {
	r, e := api.Rule{}, api.ErrRule
	if epoch >= m.epoch {
		return r, api.ErrNone
	}
	for _, x := range m.rules {
		if x.r.ID == id && x.from <= epoch && (x.until == 0 || epoch < x.until) {
			r, e = x.r, api.OK
		}
	}
	return r, e
}

// old: the error of what is read at the end of an epoch.
func (m *record) old(epoch uint64) api.Errno {
	switch {
	case epoch >= m.epoch:
		return api.ErrNone
	case epoch+lane.Keep < m.epoch-1:
		return api.ErrEpoch
	}
	return api.OK
}

func (m *record) answer(x api.ID) (api.Reply, api.Errno) {
	a := m.answers[x.Session]
	switch {
	case a.seq == 0 || x.Seq > a.seq:
		return api.Reply{}, api.ErrNone
	case x.Seq < a.seq:
		return api.Reply{}, api.ErrOld
	}
	return a.r, api.OK
}

func ahead(a, b api.ID) bool {
	return a.Session < b.Session || a.Session == b.Session && a.Seq < b.Seq
}

func (m *record) holders() []api.ID {
	var l []api.ID
	for x := range m.holds {
		l = append(l, x)
	}
	sort.Slice(l, func(a, b int) bool { return ahead(l[a], l[b]) })
	return l
}

func (m *record) opened() []api.Decision {
	var l []api.Decision
	for _, d := range m.open {
		l = append(l, d)
	}
	sort.Slice(l, func(a, b int) bool { return ahead(l[a].ID, l[b].ID) })
	return l
}
