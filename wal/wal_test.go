package wal_test

import (
	"bytes"
	"encoding/binary"
	"encoding/hex"
	"fmt"
	"hash/crc32"
	"math"
	"math/rand"
	"reflect"
	"strings"
	"testing"

	"dumbwaiter/api"
	"dumbwaiter/disk"
	"dumbwaiter/wal"
)

// plain: an image with its empty lists all alike, so that images can be held against one another.
func plain(m wal.Image) wal.Image {
	m.S.Data = append([]byte{}, m.S.Data...)
	l := []api.Entry{}
	for _, x := range m.L {
		x.Data = append([]byte{}, x.Data...)
		l = append(l, x)
	}
	m.L = l
	return m
}

// same: do two images tell the same?
func same(a, b wal.Image) bool { return reflect.DeepEqual(plain(a), plain(b)) }

// scans: do bytes come to this image, so many of them? Asked twice, and in new memory, as the answer hangs on nothing else.
func scans(t *testing.T, what string, p []byte, want wal.Image, size int) {
	t.Helper()
	for range 2 {
		m, n := wal.Scan(bytes.Clone(p))
		if n != size || !same(m, want) {
			t.Errorf("%s: Scan = %+v, %d, want %+v, %d", what, plain(m), n, plain(want), size)
		}
	}
}

// fresh: what no records come to.
func fresh() wal.Image { return wal.Image{H: api.Hard{Vote: -1}} }

// sealed: a record laid by hand, with a sum of the library.
func sealed(size int, kind byte, body []byte) []byte {
	p := binary.LittleEndian.AppendUint32(nil, uint32(size))
	p = append(append(p, kind), body...)
	return binary.LittleEndian.AppendUint32(p, crc32.ChecksumIEEE(p))
}

func record(kind byte, body []byte) []byte { return sealed(len(body), kind, body) }

// nums: numbers of eight bytes each, the lowest first.
func nums(l ...uint64) []byte {
	var p []byte
	for _, n := range l {
		p = binary.LittleEndian.AppendUint64(p, n)
	}
	return p
}

// told: how many bytes, and they.
func told(p []byte) []byte {
	return append(binary.LittleEndian.AppendUint32(nil, uint32(len(p))), p...)
}

func join(l ...[]byte) []byte { return bytes.Join(l, nil) }

func layHard(h api.Hard) []byte {
	return record(1, binary.LittleEndian.AppendUint16(nums(h.Term), uint16(h.Vote+1)))
}

func layEntry(x api.Entry) []byte {
	return record(2, join(nums(x.Index, x.Term), []byte{x.Kind}, told(x.Data)))
}

func laySnap(s api.Snap) []byte {
	return record(3, join(nums(s.Index, s.Term, s.Voters), told(s.Data)))
}

func entry(i, term uint64, data string) api.Entry {
	return api.Entry{Index: i, Term: term, Data: []byte(data)}
}

// row: entries from an index to another, one behind the other.
func row(from, to uint64) []api.Entry {
	var l []api.Entry
	for i := from; i <= to; i++ {
		l = append(l, entry(i, 1, fmt.Sprint("at ", i)))
	}
	return l
}

// onDisk: a disk with these bytes durable, and those that wait behind them.
func onDisk(sure, wait []byte) *disk.Disk {
	d := disk.New()
	d.Put(sure)
	d.Append(wait)
	return d
}

func fine(t *testing.T, what string, e api.Errno) {
	t.Helper()
	if e != api.OK {
		t.Errorf("%s answered %d", what, e)
	}
}

// P8.1: the numbers of the kinds.
func TestKinds(t *testing.T) {
	if wal.Hard != 1 || wal.Entry != 2 || wal.Snap != 3 {
		t.Errorf("kinds %d, %d, %d", wal.Hard, wal.Entry, wal.Snap)
	}
}

// P8.1: records of each kind, byte by byte.
func TestRecordsByteByByte(t *testing.T) {
	hard := wal.Bytes(wal.Save{Hard: true, H: api.Hard{Term: 0x0102, Vote: 4}})
	one := wal.Bytes(wal.Save{Entries: []api.Entry{{Index: 3, Term: 0x8000000000000002, Kind: api.Voters, Data: []byte("hi")}}})
	snap := wal.Whole(wal.Image{S: api.Snap{Index: 1, Term: 2, Voters: 5, Data: []byte("s")}})
	for _, c := range []struct {
		what string
		p    []byte
		want string
	}{
		{"Hard", hard, "0a000000 01 0201000000000000 0500"},
		{"Entry", one, "17000000 02 0300000000000000 0200000000000080 01 02000000 6869"},
		{"Snap", snap[:len(snap)-19], "1d000000 03 0100000000000000 0200000000000000 0500000000000000 01000000 73"},
	} {
		want, _ := hex.DecodeString(strings.ReplaceAll(c.want, " ", ""))
		want = binary.LittleEndian.AppendUint32(want, crc32.ChecksumIEEE(want))
		if !bytes.Equal(c.p, want) {
			t.Errorf("%s: %x, want %x", c.what, c.p, want)
		}
	}
}

// P8.1: the edges: no data and the most, the Votes -1 and 65534, numbers of all bits.
func TestRecordsAtTheEdges(t *testing.T) {
	for _, h := range []api.Hard{{}, {Vote: -1}, {Term: 1, Vote: 1}, {Term: math.MaxUint64, Vote: 65534}, {Term: 7, Vote: 255}, {Term: 7, Vote: 256}, {Vote: 65533}} {
		p := wal.Bytes(wal.Save{Hard: true, H: h})
		if !bytes.Equal(p, layHard(h)) {
			t.Errorf("%+v is %x", h, p)
		}
		scans(t, fmt.Sprintf("%+v", h), p, wal.Image{H: h}, len(p))
	}
	most := bytes.Repeat([]byte("0123456789abcdef"), api.MaxRecord/32)
	for _, data := range [][]byte{nil, {}, {0}, []byte("x"), bytes.Repeat([]byte{255}, 300), most} {
		for _, n := range []uint64{1, 2, 1 << 40, math.MaxUint64} {
			for _, kind := range []byte{api.Plain, api.Voters, 2, 255} {
				s := api.Snap{Index: n - 1, Term: n, Voters: 1, Data: data}
				x := api.Entry{Index: n, Term: n, Kind: kind, Data: data}
				m := wal.Image{H: api.Hard{Vote: -1}, S: s, L: []api.Entry{x}}
				p := wal.Whole(m)
				want := join(laySnap(s), layHard(m.H), layEntry(x))
				if !bytes.Equal(p, want) {
					t.Errorf("index %d, kind %d, %d bytes: another record", n, kind, len(data))
				}
				scans(t, "an image at the edge", p, m, len(p))
			}
		}
	}
}

// P8.1, P1: Votes and Data beyond what is promised: calls end, and what stands ahead is found.
func TestBeyondWhatIsPromised(t *testing.T) {
	for _, v := range []int{math.MinInt, -2, 65535, 1 << 20, math.MaxInt} {
		p := wal.Bytes(wal.Save{Hard: true, H: api.Hard{Term: 1, Vote: v}})
		if m, n := wal.Scan(p); n != len(p) || m.H.Term != 1 {
			t.Errorf("Vote %d: %+v, %d", v, m, n)
		}
	}
	ahead := layEntry(entry(1, 1, "a"))
	behind := wal.Bytes(wal.Save{Entries: []api.Entry{{Index: 2, Data: make([]byte, api.MaxRecord)}}})
	scans(t, "too long", join(ahead, behind), wal.Image{H: api.Hard{Vote: -1}, L: []api.Entry{entry(1, 1, "a")}}, len(ahead))
}

// P8.2: Bytes: of H, if it says so, then of each entry, in order, whatever their indices.
func TestBytes(t *testing.T) {
	h := api.Hard{Term: 3, Vote: 2}
	l := []api.Entry{entry(7, 3, "a"), entry(2, 1, ""), entry(2, 9, "b")}
	entries := join(layEntry(l[0]), layEntry(l[1]), layEntry(l[2]))
	for _, c := range []struct {
		what string
		s    wal.Save
		want []byte
	}{
		{"nothing", wal.Save{}, nil},
		{"no entries, not nil", wal.Save{Entries: []api.Entry{}}, nil},
		{"an H that isn't to be kept", wal.Save{H: h}, nil},
		{"H alone", wal.Save{Hard: true, H: h}, layHard(h)},
		{"H of nothing", wal.Save{Hard: true}, layHard(api.Hard{})},
		{"entries alone", wal.Save{H: h, Entries: l}, entries},
		{"both", wal.Save{Hard: true, H: h, Entries: l}, join(layHard(h), entries)},
	} {
		for range 2 {
			if p := wal.Bytes(c.s); !bytes.Equal(p, c.want) {
				t.Errorf("%s: %x, want %x", c.what, p, c.want)
			}
		}
	}
}

// P8.2: Whole: of S, if its Index is above 0 or its Voters aren't 0, then of H, always, then of L.
func TestWhole(t *testing.T) {
	h := api.Hard{Term: 3, Vote: -1}
	l := []api.Entry{entry(1, 3, "a"), entry(2, 3, "b")}
	rest := join(layHard(h), layEntry(l[0]), layEntry(l[1]))
	for _, s := range []api.Snap{{Index: 1}, {Voters: 1}, {Voters: 1 << 63}, {Index: math.MaxUint64, Term: 2, Voters: 7, Data: []byte("state")}, {Voters: 3, Data: []byte("state")}} {
		if p := wal.Whole(wal.Image{H: h, S: s, L: l}); !bytes.Equal(p, join(laySnap(s), rest)) {
			t.Errorf("%+v: %x", s, p)
		}
	}
	for _, s := range []api.Snap{{}, {Term: 4}, {Data: []byte("state")}, {Data: []byte{}}} {
		if p := wal.Whole(wal.Image{H: h, S: s, L: l}); !bytes.Equal(p, rest) {
			t.Errorf("%+v: %x", s, p)
		}
	}
	for _, none := range [][]api.Entry{nil, {}} {
		if p := wal.Whole(wal.Image{L: none}); !bytes.Equal(p, layHard(api.Hard{})) {
			t.Errorf("of nothing: %x", p)
		}
	}
}

// P8.2: Scan: what no records come to; each kind; what each does to what was.
func TestScan(t *testing.T) {
	scans(t, "nil", nil, fresh(), 0)
	scans(t, "empty", []byte{}, fresh(), 0)

	h1, h2 := api.Hard{Term: 5, Vote: 3}, api.Hard{Term: 4, Vote: -1}
	s1, s2 := api.Snap{Index: 4, Term: 2, Voters: 7, Data: []byte("state")}, api.Snap{Index: 2, Data: []byte{}}
	var p []byte
	more := func(what string, r []byte, want wal.Image) {
		t.Helper()
		p = join(p, r)
		scans(t, what, p, want, len(p))
	}
	more("H", layHard(h1), wal.Image{H: h1})
	more("a second H, of a lower term", layHard(h2), wal.Image{H: h2})
	more("entries", join(layEntry(entry(1, 9, "a")), layEntry(entry(2, 3, "b"))), wal.Image{H: h2, L: []api.Entry{entry(1, 9, "a"), entry(2, 3, "b")}})
	more("a snapshot, and the entries are gone", laySnap(s1), wal.Image{H: h2, S: s1})
	more("entries behind it", join(layEntry(entry(5, 1, "c")), layEntry(entry(6, 1, ""))), wal.Image{H: h2, S: s1, L: []api.Entry{entry(5, 1, "c"), entry(6, 1, "")}})
	more("H once more", layHard(h1), wal.Image{H: h1, S: s1, L: []api.Entry{entry(5, 1, "c"), entry(6, 1, "")}})
	more("a lower snapshot", laySnap(s2), wal.Image{H: h1, S: s2})
	more("an entry behind that", layEntry(entry(3, 1, "d")), wal.Image{H: h1, S: s2, L: []api.Entry{entry(3, 1, "d")}})
	more("a snapshot of nothing", laySnap(api.Snap{}), wal.Image{H: h1})
	more("the first entry", layEntry(entry(1, 1, "e")), wal.Image{H: h1, L: []api.Entry{entry(1, 1, "e")}})
}

// P8.2: an entry stands above the snapshot's index and at most one above the last one's; those from it on are gone.
func TestWhereAnEntryStands(t *testing.T) {
	for _, base := range []uint64{0, 1, 10, math.MaxUint64 - 4} {
		s := api.Snap{Index: base, Term: 1, Voters: 3}
		for n := range uint64(4) {
			l := row(base+1, base+n)
			p := wal.Whole(wal.Image{H: api.Hard{Vote: -1}, S: s, L: l})
			for _, i := range []uint64{0, base - 1, base, base + 1, base + 2, base + 3, base + 4, base + 5, math.MaxUint64} {
				x := entry(i, 8, "new")
				what := fmt.Sprintf("%d entries behind %d, then one at %d", n, base, i)
				if i > base && i-base <= n+1 {
					q := join(p, layEntry(x))
					left := append(append([]api.Entry{}, l[:i-base-1]...), x)
					scans(t, what, q, wal.Image{H: api.Hard{Vote: -1}, S: s, L: left}, len(q))
					continue
				}
				q := join(p, layEntry(x), layHard(api.Hard{Term: 77}))
				scans(t, what, q, wal.Image{H: api.Hard{Vote: -1}, S: s, L: l}, len(p))
			}
		}
	}
	last := api.Snap{Index: math.MaxUint64, Voters: 1}
	for _, i := range []uint64{0, 1, math.MaxUint64} {
		scans(t, "behind the greatest index", join(laySnap(last), layEntry(entry(i, 1, ""))), wal.Image{H: api.Hard{Vote: -1}, S: last}, len(laySnap(last)))
	}
}

// P8.2: a record that isn't whole ends it: cut at each byte, alone or behind others; the chapter's example.
func TestCutShort(t *testing.T) {
	h, s, x := api.Hard{Term: 2, Vote: 1}, api.Snap{Voters: 3, Data: []byte("st")}, entry(1, 2, "data")
	first := layHard(api.Hard{Term: 1, Vote: 0})
	for _, r := range [][]byte{layHard(h), laySnap(s), layEntry(x), layEntry(entry(1, 1, ""))} {
		for n := range r {
			scans(t, "cut", r[:n], fresh(), 0)
			scans(t, "cut behind one", join(first, r[:n]), wal.Image{H: api.Hard{Term: 1}}, len(first))
		}
		scans(t, "a record and a half", join(r, r[:len(r)/2]), comesTo(r), len(r))
	}
}

// comesTo: what a record alone comes to, by a scan that TestScan holds to the chapter.
func comesTo(r []byte) wal.Image {
	m, _ := wal.Scan(r)
	return m
}

// P8.2: a record of which any bit is another ends it, and what stands ahead is found.
func TestAnyBitTurned(t *testing.T) {
	h := api.Hard{Term: 2, Vote: 1}
	ahead, behind := layHard(h), layHard(api.Hard{Term: 9, Vote: 9})
	for _, r := range [][]byte{layHard(api.Hard{Term: 3}), laySnap(api.Snap{Index: 1, Voters: 3, Data: []byte("st")}), layEntry(entry(1, 2, "data")), layEntry(entry(1, 0, ""))} {
		for bit := range 8 * len(r) {
			q := bytes.Clone(r)
			q[bit/8] ^= 1 << (bit % 8)
			scans(t, fmt.Sprintf("bit %d", bit), join(ahead, q, behind), wal.Image{H: h}, len(ahead))
		}
	}
}

// P8.2: bytes that are no record behind whole ones.
func TestBytesOfNone(t *testing.T) {
	h, x := api.Hard{Term: 2, Vote: 1}, entry(1, 2, "data")
	p := join(layHard(h), layEntry(x))
	good := layHard(api.Hard{Term: 9})
	body := good[5 : len(good)-4]
	half := layEntry(entry(2, 2, "b"))
	half = half[5 : len(half)-4]
	none := [][]byte{
		{0}, {255}, make([]byte, 3), make([]byte, 4), make([]byte, 9), make([]byte, 100), bytes.Repeat([]byte{255}, 100),
		record(0, body), record(4, body), record(255, body), // kinds that there aren't
		record(0, nil), record(1, nil), record(2, nil), record(3, nil),
		record(1, body[:9]), record(1, append(bytes.Clone(body), 0)), record(2, body), record(3, body),
		record(2, half[:len(half)-1]), record(2, append(bytes.Clone(half), 0)),
		record(3, half), record(1, half),
		record(2, join(nums(2, 2), []byte{0}, []byte{255, 255, 255, 255})),
		record(3, join(nums(2, 2, 2), []byte{1, 0, 0, 0})),
		record(3, join(nums(2, 2, 2), []byte{0, 0, 0, 0, 0})),
		sealed(9, 1, body), sealed(11, 1, body), sealed(0, 1, body), // lengths that are another's
		sealed(-1, 1, body), sealed(math.MinInt32, 1, body), sealed(api.MaxRecord, 1, body),
		good[1:], good[4:], append([]byte{0}, good...),
	}
	for n, q := range none {
		what := fmt.Sprintf("none %d", n)
		scans(t, what, q, fresh(), 0)
		scans(t, what+" behind others", join(p, q, good), wal.Image{H: h, L: []api.Entry{x}}, len(p))
	}
}

// Limits: MaxRecord: a record of so many bytes works, one more is none.
func TestMaxRecord(t *testing.T) {
	ahead := layHard(api.Hard{Term: 1, Vote: 1})
	for over := range 3 {
		x := api.Entry{Index: 1, Term: 1, Data: bytes.Repeat([]byte("d"), api.MaxRecord-21-1+over)}
		s := api.Snap{Index: 1, Term: 1, Data: bytes.Repeat([]byte("s"), api.MaxRecord-28-1+over)}
		want := []wal.Image{{H: api.Hard{Term: 1, Vote: 1}, L: []api.Entry{x}}, {H: api.Hard{Term: 1, Vote: 1}, S: s}}
		for n, r := range [][]byte{layEntry(x), laySnap(s)} {
			p := join(ahead, r)
			m, size := wal.Scan(p)
			switch {
			case over < 2 && (size != len(p) || !same(m, want[n])):
				t.Errorf("a record of %d bytes: %d", len(r)-9, size)
			case over == 2 && (size != len(ahead) || !same(m, wal.Image{H: api.Hard{Term: 1, Vote: 1}})):
				t.Errorf("a record of %d bytes: %d", len(r)-9, size)
			}
		}
	}
}

// P8.3: Open: the image; bytes behind are gone, and no crash brings them back; where there are none nothing is done.
func TestOpen(t *testing.T) {
	h, x := api.Hard{Term: 2, Vote: 1}, entry(1, 2, "data")
	p := join(layHard(h), layEntry(x))
	want := wal.Image{H: h, L: []api.Entry{x}}
	gap := layEntry(entry(3, 2, "gap"))
	for _, behind := range [][]byte{{0}, []byte("none"), layHard(h)[:5], join(gap, layHard(api.Hard{}))} {
		for cut := range len(p) + len(behind) {
			all := join(p, behind)
			d := onDisk(all[:cut], all[cut:])
			for range 2 {
				m, e := wal.Open(d)
				fine(t, "Open", e)
				if !same(m, want) || !bytes.Equal(d.Read(), p) || d.Sure() != len(p) {
					t.Fatalf("%d durable: %+v, %d bytes, %d durable", cut, m, d.Len(), d.Sure())
				}
				d.Crash(0)
			}
			fine(t, "Keep", wal.Keep(d, wal.Save{Entries: []api.Entry{entry(2, 2, "b")}}))
			if m, _ := wal.Open(d); len(m.L) != 2 || d.Len() != len(p)+len(layEntry(entry(2, 2, "b"))) {
				t.Errorf("what was kept behind isn't found: %+v", m)
			}
		}
	}
	for _, sure := range []int{0, 3, len(p)} {
		d := onDisk(p[:sure], p[sure:])
		ops := d.Ops()
		if m, e := wal.Open(d); e != api.OK || !same(m, want) || d.Ops() != ops || d.Sure() != sure || d.Len() != len(p) {
			t.Errorf("nothing behind: %+v, %d; %d calls, %d durable", m, e, d.Ops()-ops, d.Sure())
		}
	}
	d := disk.New()
	if m, e := wal.Open(d); e != api.OK || !same(m, fresh()) || d.Ops() != 0 {
		t.Errorf("an empty one: %+v, %d", m, e)
	}
	d = onDisk([]byte("no"), []byte("ne"))
	if m, e := wal.Open(d); e != api.OK || !same(m, fresh()) || d.Len() != 0 {
		t.Errorf("one of no records: %+v, %d, %d bytes", m, e, d.Len())
	}
}

// P8.3: Keep: behind all, by one Append: it waits.
func TestKeep(t *testing.T) {
	for _, s := range []wal.Save{{}, {Hard: true, H: api.Hard{Term: 1, Vote: -1}}, {Entries: row(3, 5)}, {Hard: true, Entries: row(1, 1)}} {
		for _, ahead := range [][]byte{nil, []byte("anything")} {
			d := onDisk(ahead, nil)
			ops := d.Ops()
			fine(t, "Keep", wal.Keep(d, s))
			if !bytes.Equal(d.Read(), join(ahead, wal.Bytes(s))) || d.Sure() != len(ahead) || d.Ops() != ops+1 {
				t.Errorf("%+v: %d bytes, %d durable, %d calls", s, d.Len(), d.Sure(), d.Ops()-ops)
			}
		}
	}
}

// P8.3: Compact: in the place of all, by one Put: it is durable.
func TestCompact(t *testing.T) {
	for _, m := range []wal.Image{{}, fresh(), {H: api.Hard{Term: 4, Vote: 2}, S: api.Snap{Index: 2, Term: 1, Voters: 7, Data: []byte("state")}, L: row(3, 6)}} {
		d := onDisk([]byte("any"), []byte("thing, and more than the image has, so that none of it may be left behind it"))
		ops := d.Ops()
		fine(t, "Compact", wal.Compact(d, m))
		if !bytes.Equal(d.Read(), wal.Whole(m)) || d.Sure() != d.Len() || d.Ops() != ops+1 {
			t.Errorf("%+v: %d bytes, %d durable, %d calls", m, d.Len(), d.Sure(), d.Ops()-ops)
		}
		if got, e := wal.Open(d); e != api.OK || !same(got, m) {
			t.Errorf("%+v, %d, want %+v", got, e, m)
		}
	}
}

// P1, P8.3: no disk: ErrNone, and beside it nothing.
func TestNil(t *testing.T) {
	if m, e := wal.Open(nil); e != api.ErrNone || !reflect.DeepEqual(m, wal.Image{}) {
		t.Errorf("Open = %+v, %d", m, e)
	}
	if e := wal.Keep(nil, wal.Save{Hard: true, Entries: row(1, 2)}); e != api.ErrNone {
		t.Errorf("Keep = %d", e)
	}
	if e := wal.Compact(nil, wal.Image{L: row(1, 2)}); e != api.ErrNone {
		t.Errorf("Compact = %d", e)
	}
}

// P8.4: at each byte that a crash may leave, with nothing, some or all durable: what was durable, and whole records behind.
func TestCrashAtEachByte(t *testing.T) {
	s := api.Snap{Index: 2, Term: 1, Voters: 7, Data: []byte("state")}
	records := [][]byte{
		layHard(api.Hard{Term: 1, Vote: -1}), layEntry(entry(1, 1, "a")), layEntry(entry(2, 1, "")), layEntry(entry(3, 1, "c")),
		layHard(api.Hard{Term: 2, Vote: 0}), layEntry(entry(2, 2, "B")), laySnap(s), layHard(api.Hard{Term: 2, Vote: 0}),
		layEntry(entry(3, 2, "C")), layEntry(entry(4, 2, strings.Repeat("long ", 20))), layEntry(entry(3, 4, "C!")),
	}
	all := join(records...)
	images := []wal.Image{fresh()} // what the first n records come to, one more at a time
	ends := []int{0}
	for n, r := range records {
		ends = append(ends, ends[n]+len(r))
		m, size := wal.Scan(all[:ends[n+1]])
		if size != ends[n+1] {
			t.Fatalf("record %d isn't found", n)
		}
		images = append(images, m)
	}
	for n, sure := range ends {
		for keep := range len(all) - sure + 1 {
			d := onDisk(all[:sure], all[sure:])
			d.Crash(keep)
			whole := n
			for whole+1 < len(ends) && ends[whole+1] <= sure+keep {
				whole++
			}
			m, e := wal.Open(d)
			fine(t, "Open", e)
			if !same(m, images[whole]) || d.Len() != ends[whole] || d.Sure() != ends[whole] {
				t.Fatalf("%d durable, %d kept: %+v, want %+v", sure, keep, m, images[whole])
			}
		}
	}
}

// Rule of memory: what is handed in isn't changed, and an answer shares nothing with it.
func TestMemory(t *testing.T) {
	m := wal.Image{H: api.Hard{Term: 3, Vote: 1}, S: api.Snap{Index: 2, Term: 1, Voters: 7, Data: []byte("state")}, L: row(3, 5)}
	was := plain(m)
	p := wal.Whole(m)
	q := wal.Bytes(wal.Save{Hard: true, H: m.H, Entries: m.L})
	if !same(m, was) {
		t.Errorf("what was handed in is %+v", m)
	}
	clear(m.S.Data)
	clear(m.L[0].Data)
	clear(q)
	scans(t, "written over", p, was, len(p))

	bytesWere := bytes.Clone(p)
	got, _ := wal.Scan(p)
	if !bytes.Equal(p, bytesWere) {
		t.Error("Scan has changed its bytes")
	}
	clear(p)
	if !same(got, was) {
		t.Errorf("what was answered is %+v", got)
	}
	for n, x := range got.L {
		if grown := append(x.Data, "behind"...); n+1 < len(got.L) && (len(grown) == 0 || !same(got, was)) {
			t.Error("data grows into other data")
		}
	}
}

// P8.2, P8.3, P8.4, P2: calls drawn by lot, with crashes at any byte, held against a plain model: the records one by one.
func TestByLot(t *testing.T) {
	g := rand.New(rand.NewSource(8))
	for range 60 {
		d := disk.New()
		m := &model{}
		for step := range 60 {
			switch g.Intn(8) {
			case 0, 1, 2, 3:
				s := m.draw(g)
				fine(t, "Keep", wal.Keep(d, s))
				m.keep(s)
			case 4:
				fine(t, "Sync", d.Sync())
				m.sure = len(m.records)
			case 5:
				i := m.image()
				if len(i.L) > 0 {
					n := g.Intn(len(i.L) + 1)
					i.L = i.L[n:]
					i.S.Index += uint64(n)
					i.S.Data = []byte(fmt.Sprint("state", step))
				}
				fine(t, "Compact", wal.Compact(d, i))
				m.compact(i)
			default:
				m.crash(d, g)
				i, e := wal.Open(d)
				fine(t, "Open", e)
				if !same(i, m.image()) {
					t.Fatalf("step %d: %+v, want %+v", step, plain(i), plain(m.image()))
				}
			}
			if i, n := wal.Scan(d.Read()); n != d.Len() || !same(i, m.image()) {
				t.Fatalf("step %d: %+v, %d of %d, want %+v", step, plain(i), n, d.Len(), plain(m.image()))
			}
		}
	}
}

// model is a file in the chapter's words: its records, one by one, and how many of them are durable.
type model struct {
	records []func(*wal.Image)
	sizes   []int
	sure    int
}

func (m *model) add(size int, r func(*wal.Image)) {
	m.records = append(m.records, r)
	m.sizes = append(m.sizes, size)
}

func (m *model) keep(s wal.Save) {
	if s.Hard {
		m.add(19, func(i *wal.Image) { i.H = s.H })
	}
	for _, x := range s.Entries {
		m.add(30+len(x.Data), func(i *wal.Image) {
			var left []api.Entry
			for _, y := range i.L {
				if y.Index < x.Index {
					left = append(left, y)
				}
			}
			i.L = append(left, x)
		})
	}
}

func (m *model) compact(i wal.Image) {
	*m = model{}
	if i.S.Index > 0 || i.S.Voters > 0 {
		m.add(37+len(i.S.Data), func(j *wal.Image) { j.S, j.L = i.S, nil })
	}
	m.keep(wal.Save{Hard: true, H: i.H, Entries: i.L})
	m.sure = len(m.records)
}

func (m *model) image() wal.Image {
	i := fresh()
	for _, r := range m.records {
		r(&i)
	}
	return i
}

// draw: something to be kept, entries of which stand behind what is there, or go back into it.
func (m *model) draw(g *rand.Rand) wal.Save {
	i := m.image()
	s := wal.Save{Hard: g.Intn(2) == 0, H: api.Hard{Term: g.Uint64(), Vote: g.Intn(65536) - 1}}
	at := i.S.Index + 1 + uint64(g.Intn(len(i.L)+1))
	for range g.Intn(4) {
		data := make([]byte, g.Intn(20))
		g.Read(data)
		s.Entries = append(s.Entries, api.Entry{Index: at, Term: uint64(g.Intn(9)), Kind: byte(g.Intn(2)), Data: data})
		at++
	}
	return s
}

// crash: some bytes of those that wait are left.
func (m *model) crash(d *disk.Disk, g *rand.Rand) {
	keep := g.Intn(d.Len() - d.Sure() + 1)
	d.Crash(keep)
	left := m.sure
	for left < len(m.records) && keep >= m.sizes[left] {
		keep -= m.sizes[left]
		left++
	}
	m.records, m.sizes, m.sure = m.records[:left], m.sizes[:left], left
}
