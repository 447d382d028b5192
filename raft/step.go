package raft

import (
	"dumbwaiter/api"
	"dumbwaiter/own"
)

// Step: a message has come. ErrArg: it isn't for it, or it is none.
func (r *Raft) Step(m api.Message) api.Errno {
	if r == nil || !r.isMine(m) {
		return api.ErrArg
	}
	if m.Term > r.hard.Term && isOfItsTerm(m) {
		r.follow(m.Term)
	}
	switch m.Kind {
	case api.Pre:
		r.takePre(m)
	case api.PreOK:
		r.takePreOK(m)
	case api.Ask:
		r.takeAsk(m)
	case api.Vote:
		r.takeVote(m)
	case api.Ack:
		r.takeAck(m)
	default:
		r.takeTold(m)
	}
	return api.OK
}

func (r *Raft) isMine(m api.Message) bool {
	return m.To == r.me && m.From != r.me && isNode(m.From) && m.Kind >= api.Pre && m.Kind <= api.Install && m.Term > 0
}

// isOfItsTerm: is who sends a message in its term already? Of those that ask for a next one, and would vote in it, nobody is.
func isOfItsTerm(m api.Message) bool {
	return m.Kind != api.Pre && (m.Kind != api.PreOK || !m.OK)
}

// takeTold: a leader has told something, entries or a snapshot; an earlier one hears that its term is over.
func (r *Raft) takeTold(m api.Message) {
	ack := api.Message{Kind: api.Ack, To: m.From, Term: r.hard.Term}
	switch {
	case m.Term < r.hard.Term:
	case r.role == Leader:
		return // none but itself leads in its term
	default:
		r.hear(m.From)
		ack.OK, ack.Index = r.take(m)
	}
	r.send(ack)
}

// take: does it have what was told, and up to where, or else, where might it be tried?
func (r *Raft) take(m api.Message) (bool, uint64) {
	if m.Kind == api.Install {
		r.takeSnap(m.S)
		return true, r.commit
	}
	if m.Index >= r.log.Base() && !r.log.Fit(m.Index, m.LogTerm) { // ahead of Base all is committed, so a leader has it too
		return false, r.place(m.Index)
	}
	last := r.merge(m)
	r.commit = max(r.commit, min(m.Commit, last))
	return true, last
}

// place: where entries may fit that don't behind an index: ahead of all entries of the term that is another one there.
func (r *Raft) place(i uint64) uint64 {
	if i > r.log.Last() {
		return r.log.Last()
	}
	other, _ := r.log.Term(i)
	for i > r.commit && r.log.Fit(i, other) {
		i--
	}
	return i
}

// merge: a message's entries stand behind the one that it names; the index up to where they do.
func (r *Raft) merge(m api.Message) uint64 {
	l := r.sound(m)
	if first := r.log.Merge(l); first > 0 {
		r.told.last = min(r.told.last, first-1)
	}
	return m.Index + uint64(len(l))
}

// sound: a message's entries up to the first that doesn't stand behind the one ahead, or is another than one that is committed: no leader tells such.
func (r *Raft) sound(m api.Message) []api.Entry {
	ahead := m.Index
	for n, x := range m.Entries {
		if x.Index <= ahead || x.Index-ahead != 1 || r.isAgainst(x) {
			return m.Entries[:n]
		}
		ahead = x.Index
	}
	return m.Entries
}

func (r *Raft) isAgainst(x api.Entry) bool {
	return x.Index >= r.log.Base() && x.Index <= r.commit && !r.log.Fit(x.Index, x.Term)
}

// takeSnap: a snapshot has come. What it has is committed; it stands in the place of all, but where its last entry is there.
func (r *Raft) takeSnap(s api.Snap) {
	if s.Index <= r.commit {
		return
	}
	r.commit = s.Index
	if r.log.Fit(s.Index, s.Term) {
		return
	}
	r.snap = own.Snap(s)
	r.log.Reset(r.snap)
	r.came, r.hasCome = r.snap, true
	r.told.last = s.Index // it is laid whole, not by Save
}
