package host

import (
	"dumbwaiter/api"
	"dumbwaiter/command"
	"dumbwaiter/lane"
	"dumbwaiter/wal"
)

// longest is how many bytes of a state can be a snapshot: what stands around it in a record, or in a message, takes fewer than are left.
const longest = api.MaxRecord - 128

// settle: what is done behind each call that may have changed something.
func (h *Host) settle() {
	if s, ok := h.raft.Save(); ok {
		wal.Keep(h.disk, s)
	}
	if s, ok := h.raft.Restore(); ok {
		h.state, _ = lane.Decode(s.Data) // Take has let in no other snapshot
		h.at = s.Index
		wal.Compact(h.disk, h.raft.Image())
	}
	for h.at < h.raft.Commit() {
		x, _ := h.raft.Entry(h.at + 1) // what isn't in the snapshot is there
		h.apply(x)
	}
	if h.isDue() {
		h.snapshot()
	}
}

// apply: the next entry that is committed has its turn.
func (h *Host) apply(x api.Entry) {
	h.at++
	h.seen = append(h.seen, x)
	c, e := command.Decode(x.Data)
	if x.Kind != api.Plain || e != api.OK {
		return
	}
	if h.closes(c) {
		h.closing = 0
	}
	if f := h.state.Apply(x.Index, c); f.Kind != lane.Nothing {
		h.effects = append(h.effects, f)
	}
}

// isDue: is a snapshot to be made?
func (h *Host) isDue() bool {
	behind := h.at - h.raft.Base()
	return h.at != h.tooLong && (behind >= Long || behind > 0 && h.disk.Len() > h.quota/2)
}

// snapshot: the state stands in the place of the entries that have come to it. They stay while its bytes are more than a record, or a message, can have: else nothing of them would be found again.
func (h *Host) snapshot() {
	p := h.state.Encode()
	if len(p) > longest {
		h.tooLong = h.at
		return
	}
	h.raft.Compact(h.at, p)
	wal.Compact(h.disk, h.raft.Image())
}
