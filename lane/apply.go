package lane

import (
	"slices"

	"dumbwaiter/api"
	"dumbwaiter/command"
	"dumbwaiter/mvcc"
	"dumbwaiter/own"
)

// Apply: a command, at an index.
func (s *State) Apply(index uint64, c api.Command) api.Effect {
	if s == nil {
		return api.Effect{}
	}
	switch c.Kind {
	case command.Close:
		return s.closeEpoch(c.Epoch)
	case command.Prepare:
		return s.prepare(c.Hold)
	case command.Finish:
		return s.finish(c)
	case command.Decide:
		return s.decide(index, c)
	case command.Forget:
		s.forget(c.ID)
	case command.Grant:
		s.grant(c.Rule, c.On)
	case command.Give:
		return s.give(index, c)
	}
	return api.Effect{}
}

// closeEpoch: the next epoch is open, if that one is, and nobody holds something of it.
func (s *State) closeEpoch(epoch uint64) api.Effect {
	if epoch != s.epoch || !s.May() {
		return api.Effect{}
	}
	s.epoch++
	clear(s.used) // a Quota is one of each epoch
	if s.epoch > Keep+1 {
		s.stands.Trim(s.epoch - 1 - Keep)
	}
	return api.Effect{Kind: Closed}
}

// prepare: a transaction holds something, if it can, and is told what it reads.
func (s *State) prepare(h api.Hold) api.Effect {
	x := api.Reply{E: s.Hold(h)}
	if x.E == api.OK {
		x = s.Told(h)
	}
	return api.Effect{Kind: Voted, ID: h.ID, R: x}
}

// finish: a transaction holds nothing any more; if it held something, and has happened, its writes stand.
func (s *State) finish(c api.Command) api.Effect {
	if s.held.Drop(c.ID) && c.E == api.OK {
		for _, w := range c.Writes {
			s.stands.Put(w.At, mvcc.Version{Epoch: c.Epoch, Index: c.Index, Del: w.Del, Val: w.Val})
		}
	}
	return api.Effect{Kind: Finished, ID: c.ID}
}

// decide: a transaction happens, or not.
func (s *State) decide(index uint64, c api.Command) api.Effect {
	x := s.verdict(index, c)
	if x.E != api.OK && c.ID.Session >= Inner {
		return api.Effect{} // what is released is tried again, till it is written
	}
	f, ok := s.answer(c.ID, x)
	if ok && c.Shards != 0 {
		s.tell(c, x)
	}
	return f
}

// verdict: the answer of a Decide.
func (s *State) verdict(index uint64, c api.Command) api.Reply {
	x := c.R
	if x.E == api.OK && c.Epoch != s.epoch {
		x = api.Reply{E: api.ErrEpoch}
	}
	x.Epoch, x.Index = c.Epoch, index
	return x
}

// answer: a number of a session is answered; false: it was, or a later one, or is none.
func (s *State) answer(id api.ID, x api.Reply) (api.Effect, bool) {
	if s.answered.Put(id.Session, id.Seq, x) == api.OK {
		x, _ = s.answered.Get(id.Session, id.Seq) // in new memory
		return api.Effect{Kind: Decided, ID: id, R: x}, true
	}
	if s.answered.Last(id.Session) > id.Seq {
		return api.Effect{Kind: Decided, ID: id, R: api.Reply{E: api.ErrOld}}, false
	}
	return api.Effect{}, false
}

// tell: a transaction that was answered so is open, till its shards have heard.
func (s *State) tell(c api.Command, x api.Reply) {
	d := api.Decision{ID: c.ID, E: x.E, Epoch: x.Epoch, Index: x.Index, Shards: c.Shards}
	if d.E == api.OK {
		d.Parts = own.Parts(c.Parts)
	}
	n, _ := s.place(d.ID) // it isn't there, as no number is answered twice
	s.open = slices.Insert(s.open, n, d)
}

// forget: a transaction isn't open any more.
func (s *State) forget(id api.ID) {
	if n, ok := s.place(id); ok {
		s.open = slices.Delete(s.open, n, n+1)
	}
}

// grant: a rule holds from the open epoch on, or doesn't any more.
func (s *State) grant(r api.Rule, on bool) {
	if on {
		s.rules.Grant(r, s.epoch)
	} else {
		s.rules.Revoke(r.ID, s.epoch)
	}
}

// give: something is released, or not.
func (s *State) give(index uint64, c api.Command) api.Effect {
	x := api.Reply{E: c.R.E, Epoch: c.Epoch, Index: index}
	if x.E == api.OK {
		x.E = s.gives(c)
	}
	f, ok := s.answer(c.ID, x)
	if ok && x.E == api.OK {
		w := c.Writes[0]
		s.release(api.Item{To: c.Rule.To, Rule: c.Rule.ID, Epoch: c.Epoch, W: Pad(w, min(s.wide, len(w.Val)))})
	}
	return f
}

// gives: OK, if a Give can release something now.
func (s *State) gives(c api.Command) api.Errno {
	switch {
	case c.Epoch != s.epoch:
		return api.ErrEpoch
	case len(c.Writes) != 1:
		return api.ErrArg
	case s.used[c.Rule.ID] >= c.Rule.Quota:
		return api.ErrQuota
	}
	return api.OK
}

// release: something is released, as the next one to its label.
func (s *State) release(x api.Item) {
	l := s.out[x.To]
	x.N = uint64(len(l)) + 1
	s.out[x.To] = append(l, x)
	if x.Epoch == s.epoch {
		s.used[x.Rule]++
	}
}
