package raft

import (
	"math/bits"
	"slices"

	"dumbwaiter/api"
	"dumbwaiter/logs"
	"dumbwaiter/own"
)

// Propose: one more entry. ErrLeader: it doesn't lead; ErrLong: it is too long, or there is no index any more.
func (r *Raft) Propose(data []byte) (uint64, api.Errno) {
	if !r.Leads() {
		return 0, api.ErrLeader
	}
	if len(data) > longest {
		return 0, api.ErrLong
	}
	i := r.log.Put(r.hard.Term, api.Plain, data)
	if i == 0 {
		return 0, api.ErrLong
	}
	r.tellAll()
	return i, api.OK
}

// Change: other nodes vote: one more, or one less. ErrLeader: it doesn't lead; ErrConflict: an earlier change isn't committed, or nothing of its own term is; ErrArg: not just one is another, nobody would vote, or a node that is none, or there is no index any more.
func (r *Raft) Change(voters uint64) api.Errno {
	if !r.Leads() {
		return api.ErrLeader
	}
	now, at := r.log.Voters()
	if at > r.commit || !r.Ready() {
		return api.ErrConflict
	}
	if voters == 0 || voters >= bit(api.MaxNodes) || bits.OnesCount64(voters^now) != 1 {
		return api.ErrArg
	}
	if r.log.Put(r.hard.Term, api.Voters, logs.Bytes(voters)) == 0 {
		return api.ErrArg
	}
	r.tellAll()
	return api.OK
}

func (r *Raft) tellAll() {
	others := r.others()
	for n := range api.MaxNodes {
		if others&bit(n) != 0 {
			r.tell(n)
		}
	}
}

// tell: a node gets what it may lack: entries, or the snapshot, where the one ahead of them isn't there any more.
func (r *Raft) tell(n int) {
	ahead := r.next[n] - 1
	term, ok := r.log.Term(ahead)
	if !ok {
		r.install(n)
		return
	}
	r.recall(n)
	r.send(api.Message{Kind: api.Append, To: n, Term: r.hard.Term, Index: ahead, LogTerm: term, Commit: r.commit, Entries: r.batch(r.next[n])})
}

// install: a node gets the snapshot, if just that isn't waiting to go there already.
func (r *Raft) install(n int) {
	waits := func(m api.Message) bool {
		return m.Kind == api.Install && m.To == n && m.Term == r.hard.Term && m.S.Index == r.snap.Index
	}
	if !slices.ContainsFunc(r.out, waits) {
		r.send(api.Message{Kind: api.Install, To: n, Term: r.hard.Term, S: own.Snap(r.snap)})
	}
}

// recall: an Append that is to go along with a later one to the same node never goes: it needn't take up room till then.
func (r *Raft) recall(n int) {
	rest := slices.DeleteFunc(r.out[r.free:], func(m api.Message) bool { return m.Kind == api.Append && m.To == n })
	r.out = r.out[:r.free+len(rest)]
}

// batch: the entries from an index on that go in one message.
func (r *Raft) batch(i uint64) []api.Entry {
	l := r.log.From(i, Batch)
	size := 0
	for n, x := range l {
		size += len(x.Data)
		if n > 0 && size > heaviest {
			return l[:n]
		}
	}
	return l
}

// takeAck: a node has entries up to an index; or not, and that is a place to try.
func (r *Raft) takeAck(m api.Message) {
	if r.role != Leader || m.Term != r.hard.Term {
		return
	}
	n := m.From
	switch {
	case !m.OK:
		r.next[n] = max(r.has[n], min(r.next[n]-1, m.Index)) + 1 // never ahead of what it has: an old answer may come late
	case m.Index <= r.log.Last():
		r.has[n] = max(r.has[n], m.Index)
		r.next[n] = max(r.next[n], r.has[n]+1)
		r.advance()
	}
	if r.has[n] < r.log.Last() && r.others()&bit(n) != 0 {
		r.tell(n)
	}
}

// advance: what most have is committed, if it is of its own term; one of an earlier term that most have might still be gone under another leader.
func (r *Raft) advance() {
	for n := range api.MaxNodes {
		i := r.has[n]
		if i > r.commit && r.log.Fit(i, r.hard.Term) && r.most(r.having(i)) {
			r.commit = i
		}
	}
}

// having: the nodes that have the entries up to an index, bit by bit.
func (r *Raft) having(i uint64) uint64 {
	nodes := uint64(0)
	for n := range api.MaxNodes {
		if r.has[n] >= i {
			nodes |= bit(n)
		}
	}
	return nodes
}
