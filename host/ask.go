package host

import (
	"dumbwaiter/api"
	"dumbwaiter/lane"
	"dumbwaiter/raft"
)

// member: who it is in its group; of a nil host nobody.
func (h *Host) member() *raft.Raft {
	if h == nil {
		return nil
	}
	return h.raft
}

// State: what its commands have come to.
func (h *Host) State() *lane.State {
	if h == nil {
		return nil
	}
	return h.state
}

// At: up to which index commands are applied.
func (h *Host) At() uint64 {
	if h == nil {
		return 0
	}
	return h.at
}

// Leads: does it lead?
func (h *Host) Leads() bool { return h.member().Leads() }

// Ready: does it lead, and has it applied all that was committed ahead of it?
func (h *Host) Ready() bool { return h.member().Ready() }

// Leader: who leads, as far as it knows; -1: it doesn't.
func (h *Host) Leader() int { return h.member().Leader() }

// Term: its term.
func (h *Host) Term() uint64 { return h.member().Term() }

// Last: the index of its last entry, committed or not.
func (h *Host) Last() uint64 { return h.member().Last() }

// Voters: who votes, bit by bit.
func (h *Host) Voters() uint64 { return h.member().Voters() }

// Entry: a committed entry; false: it isn't there.
func (h *Host) Entry(i uint64) (api.Entry, bool) { return h.member().Entry(i) }
