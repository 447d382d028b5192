package raft

import (
	"bytes"
	"math"
	"slices"

	"dumbwaiter/api"
	"dumbwaiter/own"
	"dumbwaiter/wal"
)

// Save: what is to be kept since the last time; false: nothing is.
func (r *Raft) Save() (wal.Save, bool) {
	if r == nil {
		return wal.Save{}, false
	}
	s := wal.Save{Entries: r.log.From(r.told.last+1, math.MaxInt)}
	if r.hard != r.told.hard {
		s.Hard, s.H = true, r.hard
	}
	r.told = mark{r.hard, r.log.Last()}
	r.free = len(r.out)
	return s, s.Hard || len(s.Entries) > 0
}

// Stable: all that was to be kept is durable; the messages that may go now.
func (r *Raft) Stable() []api.Message {
	if r == nil {
		return nil
	}
	r.sure = r.told
	r.leadIfSafe()
	if r.role == Leader {
		r.has[r.me] = r.sure.last
		r.advance()
	}
	if r.told == (mark{r.hard, r.log.Last()}) { // there is nothing that a message could be ahead of
		r.free = len(r.out)
	}
	l := lastAppends(r.out[:r.free])
	r.out, r.free = slices.Clone(r.out[r.free:]), 0 // no piece of the old list: that would keep what has gone
	return l
}

// lastAppends: messages, of Appends to one node the last alone.
func lastAppends(l []api.Message) []api.Message {
	var kept []api.Message
	later := uint64(0) // to whom an Append goes behind
	for _, m := range slices.Backward(l) {
		if m.Kind == api.Append {
			if later&bit(m.To) != 0 {
				continue
			}
			later |= bit(m.To)
		}
		kept = append(kept, m)
	}
	slices.Reverse(kept)
	return kept
}

// Restore: a snapshot that has come in the place of all; false: none has, since the last time.
func (r *Raft) Restore() (api.Snap, bool) {
	if r == nil || !r.hasCome {
		return api.Snap{}, false
	}
	s := own.Snap(r.came)
	r.came, r.hasCome = api.Snap{}, false
	return s, true
}

// Compact: entries up to an index, which is committed, are a snapshot of a state. ErrArg: it isn't, or it is one already.
func (r *Raft) Compact(i uint64, data []byte) api.Errno {
	if r == nil || i > r.commit || i <= r.log.Base() {
		return api.ErrArg
	}
	term, _ := r.log.Term(i)
	r.snap = api.Snap{Index: i, Term: term, Voters: r.log.VotersAt(i), Data: bytes.Clone(data)}
	r.log.Compact(i)
	r.told.last = max(r.told.last, i) // what is in the snapshot is laid with it, not by Save
	return api.OK
}

// Image: all that it must keep.
func (r *Raft) Image() wal.Image {
	if r == nil {
		return wal.Image{}
	}
	return wal.Image{H: r.hard, S: own.Snap(r.snap), L: r.log.From(r.log.Base()+1, math.MaxInt)}
}
