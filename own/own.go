// Package own copies what is handed in, or told, to new memory, so that no two have a list in common.
package own

import (
	"bytes"
	"slices"

	"dumbwaiter/api"
)

// each: a list in new memory, each thing of it copied by a function.
func each[T any](l []T, one func(T) T) []T {
	c := slices.Clone(l)
	for n, x := range c {
		c[n] = one(x)
	}
	return c
}

func write(w api.Write) api.Write {
	w.Val = bytes.Clone(w.Val)
	return w
}

func part(x api.Part) api.Part {
	x.Writes = Writes(x.Writes)
	return x
}

func got(g api.Got) api.Got {
	g.Val = bytes.Clone(g.Val)
	return g
}

func pair(x api.Pair) api.Pair {
	x.Val = bytes.Clone(x.Val)
	return x
}

func scan(l []api.Pair) []api.Pair { return each(l, pair) }

func entry(x api.Entry) api.Entry {
	x.Data = bytes.Clone(x.Data)
	return x
}

// Writes: the same writes.
func Writes(l []api.Write) []api.Write { return each(l, write) }

// Parts: the same parts of a transaction.
func Parts(l []api.Part) []api.Part { return each(l, part) }

// Reply: the same answer.
func Reply(r api.Reply) api.Reply {
	r.Gots, r.Scans = each(r.Gots, got), each(r.Scans, scan)
	return r
}

// Hold: the same hold.
func Hold(h api.Hold) api.Hold {
	h.Gets, h.Scans, h.Puts, h.Data = slices.Clone(h.Gets), slices.Clone(h.Scans), slices.Clone(h.Puts), bytes.Clone(h.Data)
	return h
}

// Command: the same command.
func Command(c api.Command) api.Command {
	c.Hold, c.Writes, c.R, c.Parts = Hold(c.Hold), Writes(c.Writes), Reply(c.R), Parts(c.Parts)
	return c
}

// Entries: the same entries.
func Entries(l []api.Entry) []api.Entry { return each(l, entry) }

// Snap: the same snapshot.
func Snap(s api.Snap) api.Snap {
	s.Data = bytes.Clone(s.Data)
	return s
}

// Message: the same message.
func Message(m api.Message) api.Message {
	m.Entries, m.S = Entries(m.Entries), Snap(m.S)
	return m
}

// Mail: the same mail.
func Mail(m api.Mail) api.Mail {
	m.M, m.H, m.R, m.C = Message(m.M), Hold(m.H), Reply(m.R), Command(m.C)
	return m
}
