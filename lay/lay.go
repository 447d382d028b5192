// Package lay lays what the bytes of several layers have in common: IDs, numbers by their Ranks, rules, writes, entries, snapshots.
package lay

import (
	"dumbwaiter/api"
	"dumbwaiter/number"
	"dumbwaiter/octet"
)

const (
	wide  = 8 // bytes of a Rank, a Session, a Seq, an Authority, an Index, a Term, of Voters
	label = 1
	kind  = 1
	quota = 4
	count = 4 // bytes that tell how many
)

// Fault: a reader has come upon what is none. It is asked for bytes below 0, as that is a fault whatever is left.
func Fault(r *octet.Reader) { r.Num(-1) }

// ID: a transaction, by its session and its number there.
func ID(w *octet.Writer, id api.ID) { w.Num(id.Session, wide).Num(id.Seq, wide) }

// ReadID: and back. At a fault none.
func ReadID(r *octet.Reader) api.ID {
	id := api.ID{Session: r.Num(wide), Seq: r.Num(wide)}
	if r.Bad() {
		return api.ID{}
	}
	return id
}

// Number: a number, by its Rank.
func Number(w *octet.Writer, x float64) { w.Num(number.Rank(x), wide) }

// ReadNumber: and back. A fault: Number lays no such Rank.
func ReadNumber(r *octet.Reader) float64 {
	rank := r.Num(wide)
	x := number.Back(rank)
	if number.Rank(x) != rank {
		Fault(r)
		return 0
	}
	return x
}

// Rule: a rule.
func Rule(w *octet.Writer, x api.Rule) {
	w.Num(x.ID, wide).Num(uint64(x.From), label).Num(uint64(x.To), label)
	Number(w, x.Lo)
	Number(w, x.Hi)
	w.Num(x.Authority, wide).Num(uint64(x.Quota), quota)
}

// ReadRule: and back. At a fault none.
func ReadRule(r *octet.Reader) api.Rule {
	x := api.Rule{
		ID: r.Num(wide), From: int(r.Num(label)), To: int(r.Num(label)),
		Lo: ReadNumber(r), Hi: ReadNumber(r),
		Authority: r.Num(wide), Quota: int(r.Num(quota)),
	}
	if r.Bad() {
		return api.Rule{}
	}
	return x
}

// Write: a write.
func Write(w *octet.Writer, x api.Write) {
	Number(w, x.At)
	w.Flag(x.Del).Bytes(x.Val)
}

// ReadWrite: and back, with so many bytes of Val at most. At a fault none.
func ReadWrite(r *octet.Reader, long int) api.Write {
	x := api.Write{At: ReadNumber(r), Del: r.Flag(), Val: r.Bytes(long)}
	if r.Bad() {
		return api.Write{}
	}
	return x
}

// Writes: how many, and they.
func Writes(w *octet.Writer, l []api.Write) {
	w.Num(uint64(len(l)), count)
	for _, x := range l {
		Write(w, x)
	}
}

// ReadWrites: and back, so many at most, with so many bytes of each Val. At a fault none.
func ReadWrites(r *octet.Reader, most, long int) []api.Write {
	var l []api.Write
	for range r.Count(most) {
		l = append(l, ReadWrite(r, long))
		if r.Bad() {
			return nil
		}
	}
	return l
}

// Entry: an entry of a log.
func Entry(w *octet.Writer, x api.Entry) {
	w.Num(x.Index, wide).Num(x.Term, wide).Num(uint64(x.Kind), kind).Bytes(x.Data)
}

// ReadEntry: and back, with so many bytes of Data at most. At a fault none.
func ReadEntry(r *octet.Reader, long int) api.Entry {
	x := api.Entry{Index: r.Num(wide), Term: r.Num(wide), Kind: byte(r.Num(kind)), Data: r.Bytes(long)}
	if r.Bad() {
		return api.Entry{}
	}
	return x
}

// Snap: a snapshot.
func Snap(w *octet.Writer, s api.Snap) {
	w.Num(s.Index, wide).Num(s.Term, wide).Num(s.Voters, wide).Bytes(s.Data)
}

// ReadSnap: and back, with so many bytes of Data at most. At a fault none.
func ReadSnap(r *octet.Reader, long int) api.Snap {
	s := api.Snap{Index: r.Num(wide), Term: r.Num(wide), Voters: r.Num(wide), Data: r.Bytes(long)}
	if r.Bad() {
		return api.Snap{}
	}
	return s
}
