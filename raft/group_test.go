package raft_test

import (
	"fmt"
	"testing"

	"dumbwaiter/api"
	"dumbwaiter/raft"
)

// P10.2, P10.4: groups of each size: a leader is chosen, and what it proposes is committed on all.
func TestGroups(t *testing.T) {
	for n := 1; n <= api.MaxNodes; n++ {
		g := group(t, n)
		g.rounds(3 * elect)
		a := g.leader()
		if a < 0 {
			t.Fatalf("%d nodes: nobody leads", n)
		}
		for i := range 40 {
			if at, e := g.l[a].Propose([]byte(fmt.Sprint(i))); at != uint64(i+2) || e != api.OK {
				t.Errorf("%d nodes: Propose = %d, %d", n, at, e)
			}
		}
		g.rounds(2 * beat)
		g.alike(t, fmt.Sprint(n, " nodes"))
		for m, r := range g.l {
			if r.Commit() != 41 || r.Ready() != (m == a) || r.Term() != g.l[a].Term() {
				t.Errorf("%d of %d nodes: commit %d, term %d", m, n, r.Commit(), r.Term())
			}
		}
	}
}

// P10.2, P10.4: a leader is lost, and another one leads, with all that was committed; the first comes back, and what only it had is gone.
func TestLeaderIsLost(t *testing.T) {
	for n := 3; n <= api.MaxNodes; n++ {
		g := group(t, n)
		g.rounds(3 * elect)
		a := g.leader()
		at, _ := g.l[a].Propose([]byte("kept"))
		g.rounds(2 * beat)
		g.off = 1 << a
		lost, _ := g.l[a].Propose([]byte("lost"))
		g.rounds(6 * elect)
		b := g.leader()
		if b < 0 || b == a || g.l[b].Term() <= g.l[a].Term() {
			t.Fatalf("%d nodes: %d leads behind %d", n, b, a)
		}
		if !g.l[a].Leads() || g.l[a].Commit() >= lost {
			t.Errorf("%d nodes: one that is cut off commits", n)
		}
		g.l[b].Propose([]byte("new"))
		g.rounds(2 * beat)
		g.off = 0
		g.rounds(2 * elect)
		g.alike(t, fmt.Sprint(n, " nodes"))
		if g.leader() != b {
			t.Errorf("%d nodes: %d leads, not %d", n, g.leader(), b)
		}
		for m, r := range g.l {
			x, _ := r.Entry(at)
			y, _ := r.Entry(lost)
			if string(x.Data) != "kept" || string(y.Data) == "lost" {
				t.Errorf("%d of %d nodes: %+v, %+v", m, n, x, y)
			}
		}
	}
}

// P10.2: most are needed: with one fewer nobody is chosen, and nothing committed.
func TestTooFew(t *testing.T) {
	for n := 2; n <= api.MaxNodes; n++ {
		g := group(t, n)
		g.off = all(n) &^ all(n/2) // one fewer than most are left
		g.rounds(10 * elect)
		for m, r := range g.l {
			if r.Leads() || r.Term() != 0 || r.Commit() != 0 {
				t.Errorf("%d of %d nodes: role %d, term %d", m, n, r.Role(), r.Term())
			}
		}
		g.off &= g.off - 1
		g.rounds(6 * elect)
		if g.leader() < 0 {
			t.Errorf("%d nodes, just most: nobody leads", n)
		}
	}
}

// P10.2: a member that was cut off, and has asked in vain, comes back without a new term.
func TestCutOff(t *testing.T) {
	g := group(t, 3)
	g.rounds(3 * elect)
	a := g.leader()
	cut := (a + 2) % 3
	g.off = 1 << cut
	for range 30 {
		g.l[a].Propose([]byte("y"))
		g.round()
	}
	if g.l[cut].Role() != raft.Asker || g.l[cut].Term() != g.l[a].Term() || g.l[cut].Leader() != -1 {
		t.Errorf("role %d, term %d, leader %d", g.l[cut].Role(), g.l[cut].Term(), g.l[cut].Leader())
	}
	g.off = 0
	term := g.l[a].Term()
	g.rounds(2 * beat)
	g.alike(t, "come back")
	if g.leader() != a || g.l[a].Term() != term {
		t.Errorf("%d leads in %d", g.leader(), g.l[a].Term())
	}
	if s, ok := g.l[cut].Restore(); ok {
		t.Errorf("a snapshot, though all entries are there: %+v", s)
	}
}

// P10.3: one that lags so far that the entries aren't there any more gets the snapshot, and then what is behind.
func TestLags(t *testing.T) {
	for _, behind := range []int{0, 1, 16, 40} {
		g := group(t, 5)
		g.rounds(3 * elect)
		a := g.leader()
		cut := (a + 1) % 5
		g.off = 1 << cut
		for range 20 {
			g.l[a].Propose([]byte("y"))
			g.round()
		}
		at := g.l[a].Commit()
		if e := g.l[a].Compact(at, []byte("state")); e != api.OK {
			t.Fatal(e)
		}
		for range behind {
			g.l[a].Propose([]byte("z"))
		}
		g.off = 0
		g.rounds(3 * beat)
		g.alike(t, fmt.Sprint(behind, " behind the snapshot"))
		s, ok := g.l[cut].Restore()
		if !ok || s.Index != at || string(s.Data) != "state" || s.Voters != all(5) || g.l[cut].Base() != at {
			t.Errorf("%d behind: %+v, %v", behind, s, ok)
		}
		for n, r := range g.l {
			if _, ok := r.Restore(); ok {
				t.Errorf("%d has got a snapshot", n)
			}
		}
	}
}

// P10.2: who votes changes one by one, up to all nodes and down to one; the group goes on, and each that votes has all.
func TestGroupGrowsAndShrinks(t *testing.T) {
	g := &net{}
	for i := range api.MaxNodes {
		g.l = append(g.l, made(t, i, fresh(1)))
	}
	g.rounds(3 * elect)
	voters := uint64(1)
	change := func(next uint64) {
		t.Helper()
		if e := g.l[0].Change(next); e != api.OK {
			t.Fatalf("Change(%b) = %d", next, e)
		}
		voters = next
		g.l[0].Propose([]byte("x"))
		g.rounds(3 * beat)
		for n, r := range g.l {
			if voters>>n&1 != 0 && (r.Commit() != g.l[0].Last() || r.Voters() != voters || r.Leader() != 0) {
				t.Errorf("%b: %d has %d of %d, voters %b, leader %d", voters, n, r.Commit(), g.l[0].Last(), r.Voters(), r.Leader())
			}
		}
	}
	for n := 1; n < api.MaxNodes; n++ {
		change(voters | 1<<n)
	}
	for n := 1; n < api.MaxNodes; n++ {
		change(voters &^ (1 << n))
	}
	if !g.l[0].Leads() || g.l[0].Term() != 1 {
		t.Errorf("role %d, term %d: who votes no more disturbs", g.l[0].Role(), g.l[0].Term())
	}
}

// P2: the same calls, the same answers.
func TestSameAgain(t *testing.T) {
	run := func() string {
		g := group(t, 3)
		said := ""
		for i := range 60 {
			for n, r := range g.l {
				if i%7 == n {
					r.Draw(float64(i) / 60)
				}
				r.Propose([]byte{byte(i)})
				r.Compact(r.Commit()-min(r.Commit(), 5), []byte{byte(i)})
			}
			g.off = uint64(i/10%3) * 2
			g.round()
			for _, r := range g.l {
				said += fmt.Sprint(factsOf(r))
			}
		}
		return said
	}
	if run() != run() {
		t.Error("not the same again")
	}
}
