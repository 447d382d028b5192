package raft

import (
	"math"

	"dumbwaiter/api"
	"dumbwaiter/number"
)

// Draw: by what the ticks of the next wait are drawn.
func (r *Raft) Draw(x float64) {
	if r != nil {
		r.draw, r.drawn = x, true
	}
}

// wait: it begins to wait for a leader.
func (r *Raft) wait() {
	x := (2*float64(r.me) + 0.5) / float64(r.elect)
	if r.drawn {
		x = r.draw
	}
	r.ticks, r.more, r.drawn = 0, number.Draw(x, r.elect), false
}

// Tick: a tick has gone by.
func (r *Raft) Tick() {
	switch {
	case r == nil || r.won: // who is elected waits for its disk alone
	case r.role == Leader:
		r.tickLeader()
	default:
		r.tickOther()
	}
}

func (r *Raft) tickLeader() {
	r.ticks++
	if r.ticks >= r.beat {
		r.ticks = 0
		r.tellAll()
	}
}

func (r *Raft) tickOther() {
	r.ticks++
	over := r.ticks >= r.elect && r.ticks-r.elect >= r.more // elect and more might be too great for a number
	if over && r.Voters()&bit(r.me) != 0 {
		r.ask()
	}
}

// ask: would most vote for it in the next term?
func (r *Raft) ask() {
	if r.hard.Term == math.MaxUint64 {
		return // there is no next one
	}
	r.role, r.leader = Asker, nobody
	r.wait()
	r.poll(api.Pre, r.hard.Term+1)
	if r.most(r.votes) {
		r.stand()
	}
}

// stand: it is a candidate of the next term.
func (r *Raft) stand() {
	r.role = Candidate
	r.hard = api.Hard{Term: r.hard.Term + 1, Vote: r.me}
	r.poll(api.Ask, r.hard.Term)
	r.count()
}

// poll: all others that vote are asked something, and as yet it is for itself alone.
func (r *Raft) poll(kind byte, term uint64) {
	r.votes = bit(r.me)
	others := r.others()
	for n := range api.MaxNodes {
		if others&bit(n) != 0 {
			r.send(api.Message{Kind: kind, To: n, Term: term, Index: r.log.Last(), LogTerm: r.log.LastTerm()})
		}
	}
}

// count: with most votes it leads. Its first entry stands ahead of that, so that it is kept along with its own vote.
func (r *Raft) count() {
	if r.won || !r.most(r.votes) {
		return
	}
	r.log.Put(r.hard.Term, api.Plain, nil)
	r.won = true
	r.leadIfSafe()
}

// leadIfSafe: who has won leads as soon as no crash can undo by what it has won, else another one might lead in the same term: its own vote is durable, or nobody else has ever voted.
func (r *Raft) leadIfSafe() {
	voters, at := r.log.Voters()
	alone := voters == bit(r.me) && at == 0
	if r.won && (alone || r.sure.hard == r.hard) {
		r.lead()
	}
}

func (r *Raft) lead() {
	r.role, r.leader, r.won, r.ticks = Leader, r.me, false, 0
	for n := range api.MaxNodes {
		r.has[n], r.next[n] = 0, r.log.Last()
	}
	r.has[r.me] = r.sure.last
	r.tellAll()
}

// follow: there is a later term, in which nobody is known to lead.
func (r *Raft) follow(term uint64) {
	led := r.role == Leader
	r.hard = api.Hard{Term: term, Vote: nobody}
	r.role, r.leader, r.votes, r.won = Follower, nobody, 0, false
	if led {
		r.wait()
	}
}

// hear: it has heard of who leads its term.
func (r *Raft) hear(from int) {
	r.role, r.leader, r.won = Follower, from, false
	r.wait()
}

// takePre: would it vote for who asks?
func (r *Raft) takePre(m api.Message) {
	alone := r.role != Leader && (r.leader == nobody || r.ticks >= r.elect)
	if alone && m.Term > r.hard.Term && r.log.Newer(m.Index, m.LogTerm) {
		r.send(api.Message{Kind: api.PreOK, To: m.From, Term: m.Term, OK: true})
		return
	}
	// Its own term, so that one that is behind learns of it; but 0 is no message's.
	r.send(api.Message{Kind: api.PreOK, To: m.From, Term: max(r.hard.Term, 1)})
}

func (r *Raft) takePreOK(m api.Message) {
	if !m.OK || r.role != Asker || m.Term-1 != r.hard.Term {
		return
	}
	r.votes |= bit(m.From)
	if r.most(r.votes) {
		r.stand()
	}
}

// takeAsk: it votes once in a term, and for nobody whose entries are older than its own.
func (r *Raft) takeAsk(m api.Message) {
	first := r.hard.Vote == nobody || r.hard.Vote == m.From
	ok := m.Term == r.hard.Term && first && r.log.Newer(m.Index, m.LogTerm)
	if ok {
		r.hard.Vote, r.role = m.From, Follower
	}
	r.send(api.Message{Kind: api.Vote, To: m.From, Term: r.hard.Term, OK: ok})
}

func (r *Raft) takeVote(m api.Message) {
	if m.OK && r.role == Candidate && m.Term == r.hard.Term {
		r.votes |= bit(m.From)
		r.count()
	}
}
