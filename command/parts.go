package command

import (
	"dumbwaiter/api"
	"dumbwaiter/lay"
	"dumbwaiter/octet"
)

func layCount(w *octet.Writer, n int) { w.Num(uint64(n), count) }

func readWrites(r *octet.Reader) []api.Write {
	return lay.ReadWrites(r, api.MaxOps, api.MaxValue)
}

func layParts(w *octet.Writer, l []api.Part) {
	layCount(w, len(l))
	for _, x := range l {
		w.Num(uint64(x.Shard), shard)
		lay.Writes(w, x.Writes)
	}
}

func readParts(r *octet.Reader) []api.Part {
	var l []api.Part
	for range r.Count(api.MaxShards) {
		l = append(l, api.Part{Shard: int(r.Num(shard)), Writes: readWrites(r)})
	}
	return l
}

// LayReply: an answer, as bytes.
func LayReply(w *octet.Writer, x api.Reply) {
	w.Num(uint64(x.E), errno).Num(x.Epoch, wide).Num(x.Index, wide)
	layCount(w, len(x.Gots))
	for _, g := range x.Gots {
		w.Flag(g.Has).Bytes(g.Val)
	}
	layCount(w, len(x.Scans))
	for _, l := range x.Scans {
		layPairs(w, l)
	}
}

// ReadReply: an answer, of its bytes. At a fault none.
func ReadReply(r *octet.Reader) api.Reply {
	x := api.Reply{E: api.Errno(r.Num(errno)), Epoch: r.Num(wide), Index: r.Num(wide)}
	for range r.Count(api.MaxOps) {
		x.Gots = append(x.Gots, api.Got{Has: r.Flag(), Val: r.Bytes(api.MaxValue)})
	}
	for range r.Count(api.MaxOps) {
		x.Scans = append(x.Scans, readPairs(r))
	}
	if r.Bad() {
		return api.Reply{}
	}
	return x
}

func layPairs(w *octet.Writer, l []api.Pair) {
	layCount(w, len(l))
	for _, x := range l {
		lay.Number(w, x.At)
		w.Bytes(x.Val)
	}
}

func readPairs(r *octet.Reader) []api.Pair {
	var l []api.Pair
	for range r.Count(api.MaxScan) {
		l = append(l, api.Pair{At: lay.ReadNumber(r), Val: r.Bytes(api.MaxValue)})
	}
	return l
}
