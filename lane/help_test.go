package lane_test

import (
	"bytes"
	"fmt"
	"math"
	"testing"

	"dumbwaiter/api"
	"dumbwaiter/command"
	"dumbwaiter/lane"
)

const top = math.MaxUint64 // the greatest session, number, epoch and index there is

var (
	minusNought = math.Copysign(0, -1)
	low, high   = math.Inf(-1), math.Inf(1)
	nan         = math.NaN()
)

func id(session, seq uint64) api.ID { return api.ID{Session: session, Seq: seq} }

// text: all that is in something; nil and empty lists are the same there, and all NaNs; noughts aren't.
func text(x any) string { return fmt.Sprintf("%v", x) }

func same(t *testing.T, what string, got, want any) {
	t.Helper()
	if text(got) != text(want) {
		t.Errorf("%s: %v, want %v", what, got, want)
	}
}

func write(at float64, val string) api.Write { return api.Write{At: at, Val: []byte(val)} }

func del(at float64) api.Write { return api.Write{At: at, Del: true} }

func got(val string) api.Got { return api.Got{Has: true, Val: []byte(val)} }

func pair(at float64, val string) api.Pair { return api.Pair{At: at, Val: []byte(val)} }

// The commands.

func closing(epoch uint64) api.Command { return api.Command{Kind: command.Close, Epoch: epoch} }

func prepare(h api.Hold) api.Command { return api.Command{Kind: command.Prepare, Hold: h} }

func finish(x api.ID, e api.Errno, epoch, index uint64, l ...api.Write) api.Command {
	return api.Command{Kind: command.Finish, ID: x, E: e, Epoch: epoch, Index: index, Writes: l}
}

func decide(x api.ID, epoch, shards uint64, r api.Reply, l ...api.Part) api.Command {
	return api.Command{Kind: command.Decide, ID: x, Epoch: epoch, Shards: shards, R: r, Parts: l}
}

func forget(x api.ID) api.Command { return api.Command{Kind: command.Forget, ID: x} }

func grant(r api.Rule, on bool) api.Command {
	return api.Command{Kind: command.Grant, Rule: r, On: on}
}

func give(x api.ID, epoch uint64, r api.Rule, l ...api.Write) api.Command {
	return api.Command{Kind: command.Give, ID: x, Epoch: epoch, Rule: r, Writes: l}
}

// rule: what a Give names of a rule.
func rule(id uint64, to, quota int) api.Rule { return api.Rule{ID: id, To: to, Quota: quota} }

// The effects.

var (
	nothing = api.Effect{Kind: lane.Nothing}
	closed  = api.Effect{Kind: lane.Closed}
)

func voted(x api.ID, r api.Reply) api.Effect { return api.Effect{Kind: lane.Voted, ID: x, R: r} }

func finished(x api.ID) api.Effect { return api.Effect{Kind: lane.Finished, ID: x} }

func decided(x api.ID, r api.Reply) api.Effect { return api.Effect{Kind: lane.Decided, ID: x, R: r} }

// at: an answer that has an error, an epoch and an index alone.
func at(e api.Errno, epoch, index uint64) api.Reply {
	return api.Reply{E: e, Epoch: epoch, Index: index}
}

// apply: Apply, and what it should answer.
func apply(t *testing.T, what string, s *lane.State, index uint64, c api.Command, want api.Effect) {
	t.Helper()
	same(t, what, s.Apply(index, c), want)
}

// reach: epochs are closed, up to that one.
func reach(t *testing.T, s *lane.State, epoch uint64) {
	t.Helper()
	for s.Epoch() < epoch {
		if n := s.Epoch(); s.Apply(0, closing(n)).Kind != lane.Closed {
			t.Fatalf("the epoch %d can't be closed", n)
		}
	}
}

// stand: writes stand, by a transaction that holds nothing but its name.
func stand(t *testing.T, s *lane.State, epoch, index uint64, l ...api.Write) {
	t.Helper()
	x := id(top, top)
	apply(t, "stand", s, 1, prepare(api.Hold{ID: x, Epoch: s.Epoch()}), voted(x, api.Reply{}))
	apply(t, "stand", s, 2, finish(x, api.OK, epoch, index, l...), finished(x))
}

// unchanged: does something change nothing that a state tells?
func unchanged(t *testing.T, what string, s *lane.State, do func()) {
	t.Helper()
	p := s.Encode()
	do()
	if !bytes.Equal(s.Encode(), p) {
		t.Errorf("%s: the state is another one", what)
	}
}
