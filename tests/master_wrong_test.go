package tests

import (
	"fmt"
	"math"
	"reflect"
	"slices"
	"testing"

	"loop.example/g00357/impl"
)

// turnsOf are all turns of the master with a world, of numbers that may be wrong.
func turnsOf(w impl.World, id, number int64) map[string]impl.WorldResult {
	return map[string]impl.WorldResult{
		"TickWorld":   impl.TickWorld(w, number),
		"BeatWorld":   impl.BeatWorld(w, id),
		"RemoveWorld": impl.RemoveWorld(w, id),
		"JoinWorld":   impl.JoinWorld(w, id),
		"LoseWorld":   impl.LoseWorld(w, number),
	}
}

// P1: what is wrong with a world is told ahead of all that is wrong beside it, and all else is zero.
func TestWrongWorldsOfMasters(t *testing.T) {
	for _, x := range wrongWorlds() {
		if got := impl.CommittedIn(x.w); got != (impl.IntResult{Code: x.code}) {
			t.Fatalf("CommittedIn(%+v) = %+v, want the code %d", x.w, got, x.code)
		}
	}
	for _, x := range fewWrongWorlds() {
		worlds := []impl.World{x.w}
		if ended := x.w; x.w.Events == 500 {
			ended.Events = 9999
			worlds = append(worlds, ended)
		}
		for _, w := range worlds {
			// An entry of which just the events are out of bounds is none that is wrong at the end of all events.
			if impl.WorldFault(w) != x.code {
				continue
			}
			for _, id := range []int64{1, 3, 5, 0, 6, math.MinInt64, math.MaxInt64} {
				for _, number := range []int64{0, 1, -1, 101, math.MaxInt64} {
					for what, got := range turnsOf(w, id, number) {
						wantWorldCode(t, what+" of a wrong world", got, x.code)
					}
				}
			}
		}
	}
}

// An id that is no node's is told ahead of that there are all events, and that ahead of all that a turn asks itself.
func TestIdsAndEventsOfMasters(t *testing.T) {
	for _, w := range []impl.World{longWorld(), lateWorld(), fullWorld(), impl.NewWorld(1).World, impl.NewWorld(4).World} {
		count := int64(len(w.Nodes))
		for _, events := range []int64{500, 9998, 9999} {
			w.Events = events
			for _, id := range append(outOf(1, count), count+2, 1<<32+1, -1<<32+1) {
				if id >= 1 && id <= count {
					continue
				}
				for what, got := range turnsOf(w, id, 0) {
					if what != "TickWorld" && what != "LoseWorld" {
						wantWorldCode(t, what+" of no node", got, impl.ErrNone)
					}
				}
			}
		}
		w.Events = 9999
		for id := int64(1); id <= count; id++ {
			for _, number := range []int64{0, 1, -1, 101, math.MinInt64} {
				for what, got := range turnsOf(w, id, number) {
					wantWorldCode(t, what+" where there are 9999 events", got, impl.ErrMany)
				}
			}
		}
		wantCommitted(t, "CommittedIn where there are 9999 events", w)
	}
}

// A tick is 0 to 100, and Now comes to 9000 at most; what overflows is no other number.
func TestWrongTicks(t *testing.T) {
	for _, now := range []int64{0, 1, 77, 8900, 8901, 8999, 9000} {
		w := longWorld()
		w.Now = now
		for _, n := range append(outOf(0, 100), -2, 102, 1000, 9000, 9001, 1<<32+1, -1<<32+1, 1<<63-9000, math.MaxInt64-now, math.MinInt64+now, math.MinInt64+1) {
			wantWorldCode(t, fmt.Sprint("TickWorld of ", n), impl.TickWorld(w, n), impl.ErrRange)
		}
		for n := range int64(101) {
			wantStep(t, "TickWorld", impl.TickWorld(w, n), shouldTick(w, n))
		}
	}
}

// A beat is for members alone: not for one that is down, nor for one that is Up out of the chain, whatever Epoch it knows.
func TestWrongBeats(t *testing.T) {
	w := longWorld()
	for _, id := range []int64{1, 3} {
		wantWorldCode(t, "BeatWorld of one out of the chain", impl.BeatWorld(w, id), impl.ErrDown)
	}
	for epoch := range int64(8) {
		n := nodeIn(w, 1)
		n.Epoch = epoch
		wantWorldCode(t, "BeatWorld of one out of the chain", impl.BeatWorld(withNode(w, n), 1), impl.ErrDown)
	}
	for id := int64(1); id <= 5; id++ {
		n := nodeIn(w, id)
		down := withNode(w, crashedOf(n, int64(len(n.Writes))))
		wantWorldCode(t, "BeatWorld of one that is down", impl.BeatWorld(down, id), impl.ErrDown)
	}
}

// Who is not in the chain is told ahead of who is alone there, and that ahead of the last Epoch, and that ahead of the lease.
func TestWrongRemovals(t *testing.T) {
	for _, epoch := range []int64{2, 998, 999} {
		for _, lease := range []int64{0, 49, 50, 9999} {
			w := leasedAt(4, epoch, 50, lease)
			w.Chain.Ids, w.Nodes[3].Epoch = []int64{1, 2, 3}, 1
			alone := cloneWorld(w)
			alone.Chain.Ids = []int64{2}
			for _, id := range []int64{1, 3, 4} {
				wantWorldCode(t, "RemoveWorld of one that is not in the chain", impl.RemoveWorld(alone, id), impl.ErrNone)
			}
			wantWorldCode(t, "RemoveWorld of one that is not in the chain", impl.RemoveWorld(w, 4), impl.ErrNone)
			wantWorldCode(t, "RemoveWorld of the only one", impl.RemoveWorld(alone, 2), impl.ErrState)
			for id := int64(1); id <= 3; id++ {
				down := withNode(w, crashedOf(nodeIn(w, id), 0))
				switch got := impl.RemoveWorld(w, id); {
				case epoch == 999:
					wantWorldCode(t, "RemoveWorld of the last Epoch", got, impl.ErrMany)
					wantWorldCode(t, "RemoveWorld of the last Epoch, down", impl.RemoveWorld(down, id), impl.ErrMany)
				case lease >= 50:
					wantWorldCode(t, "RemoveWorld of a lease that runs", got, impl.ErrLease)
					wantMoved(t, "RemoveWorld, down", impl.RemoveWorld(down, id), eventOf(cutBy(down, id)))
				default:
					wantMoved(t, "RemoveWorld", got, eventOf(cutBy(w, id)))
				}
			}
		}
	}
}

// Who is in the chain is told ahead of the last Epoch, and that ahead of who is down: the one that joins, or the tail, or both.
func TestWrongJoinsOfWorlds(t *testing.T) {
	for _, epoch := range []int64{2, 998, 999} {
		up := leasedAt(4, epoch, 50, 60)
		up.Chain.Ids, up.Nodes[3].Epoch = []int64{3, 1, 2}, 1
		for downs := range 16 {
			w := up
			for id := int64(1); id <= 4; id++ {
				if downs>>(id-1)&1 == 1 {
					w = withNode(w, crashedOf(nodeIn(w, id), 0))
				}
			}
			for id := int64(1); id <= 3; id++ {
				wantWorldCode(t, "JoinWorld of one in the chain", impl.JoinWorld(w, id), impl.ErrTaken)
			}
			switch got := impl.JoinWorld(w, 4); {
			case epoch == 999:
				wantWorldCode(t, "JoinWorld of the last Epoch", got, impl.ErrMany)
			case !w.Nodes[3].Up || !w.Nodes[1].Up:
				wantWorldCode(t, "JoinWorld, one of both down", got, impl.ErrDown)
			default:
				wantMoved(t, "JoinWorld, the others up or down", got, eventOf(joinedBy(w, 4)))
			}
		}
	}
}

func TestWrongLosses(t *testing.T) {
	for _, msgs := range [][]impl.Msg{nil, {}, fullMsgs(1), fullMsgs(40)} {
		w := withMsgs(longWorld(), msgs)
		count := int64(len(msgs))
		for _, at := range []int64{count, count + 1, -1, -count - 1, 41, 1 << 32, 1<<32 + count - 1, -1 << 32, math.MinInt64, math.MaxInt64} {
			wantWorldCode(t, "LoseWorld, at wrong", impl.LoseWorld(w, at), impl.ErrRange)
		}
		for at := range count {
			wantMoved(t, "LoseWorld", impl.LoseWorld(w, at), shouldLose(w, at).World)
		}
	}
}

// ownTurns are turns with w, of which many have no code.
func ownTurns(w impl.World) map[string]impl.WorldResult {
	turns := map[string]impl.WorldResult{"TickWorld": impl.TickWorld(w, 1), "TickWorld of 0": impl.TickWorld(w, 0)}
	for _, n := range w.Nodes {
		turns[fmt.Sprint("BeatWorld ", n.Id)] = impl.BeatWorld(w, n.Id)
		turns[fmt.Sprint("RemoveWorld ", n.Id)] = impl.RemoveWorld(w, n.Id)
		turns[fmt.Sprint("JoinWorld ", n.Id)] = impl.JoinWorld(w, n.Id)
	}
	for at := range w.Msgs {
		turns[fmt.Sprint("LoseWorld ", at)] = impl.LoseWorld(w, int64(at))
	}
	return turns
}

// stayingLed are of all kinds, with leases that run and that are over.
func stayingLed() []impl.World {
	list := []impl.World{longWorld(), lateWorld(), fullWorld(), withStandings(), impl.NewWorld(1).World}
	for i, w := range ledWorlds() {
		if i%5 == 0 {
			list = append(list, w)
		}
	}
	return list
}

// P1: no argument is changed, not even what lies behind it, nor by a change of the answer; and the answer is new memory.
func TestLedWorldsStay(t *testing.T) {
	met := map[string]int{}
	for _, was := range stayingLed() {
		w := roomyWorld(was)
		before := told(reflect.ValueOf(w))
		impl.CommittedIn(w)
		for what, got := range ownTurns(w) {
			if got.Moved {
				met[what[:4]]++
			}
			wantOwnMemory(t, what, got.World, w)
			scribbleWorld(&got.World)
		}
		if after := told(reflect.ValueOf(w)); before != after {
			t.Fatalf("%s became %s", before, after)
		}
	}
	for _, what := range []string{"Tick", "Beat", "Remo", "Join", "Lose"} {
		if met[what] < 5 {
			t.Errorf("%s moved %d times", what, met[what])
		}
	}
	for i, x := range wrongWorlds() {
		if i%29 == 0 {
			w := roomyWorld(x.w)
			before := told(reflect.ValueOf(w))
			turnsOf(w, 2, 1)
			impl.CommittedIn(w)
			if after := told(reflect.ValueOf(w)); before != after {
				t.Fatalf("%s became %s", before, after)
			}
		}
	}
}

// P1: the lists of an answer are apart also where those that were given were one: who joins shares nothing with the tail.
func TestLedWorldsOfOneVector(t *testing.T) {
	one, writes := []int64{1, 2, 3}, []impl.Write{}
	for seq := int64(1); seq <= 6; seq++ {
		writes = append(writes, impl.Write{Kind: 1, Id: seq, Vec: one, Session: 1, Seq: seq})
	}
	w := impl.World{Now: 9, Events: 9, Chain: chainOf(1, one...)}
	for id := int64(1); id <= 4; id++ {
		w.Nodes = append(w.Nodes, impl.Node{Id: id, Up: true, Epoch: 1, Writes: writes, Sure: 7 - id, Clean: 1})
	}
	w.Msgs = []impl.Msg{forwardOf(1, 1, 2, 5, writes[4]), forwardOf(1, 1, 2, 6, writes[5]), ackOf(1, 3, 2, 3)}
	w.History = []impl.Entry{{Kind: 2, Start: 1, Vec: one, Query: one}, {Kind: 3, Start: 1, Vec: one, Query: one}}
	w.Chain.Ids = one
	if code := impl.WorldFault(w); code != impl.OK {
		t.Fatalf("%+v has the fault %d", w, code)
	}
	moved := 0
	for what, got := range ownTurns(w) {
		wantOwnMemory(t, what, got.World, w)
		if got.Moved {
			moved++
		}
		scribbleWorld(&got.World)
		if !slices.Equal(one, []int64{1, 2, 3}) {
			t.Fatalf("%s: what was given became %v", what, one)
		}
	}
	if want := 1 + 3 + 3 + 1 + 3; moved != want {
		t.Errorf("%d turns moved something, want %d", moved, want)
	}
}

// P1: an answer is the same whatever was called or changed ahead of it, also behind calls that told a code.
func TestLedWorldsAreNew(t *testing.T) {
	for _, make := range []func() impl.World{longWorld, lateWorld, withStandings} {
		want, kept := ownTurns(make()), ownTurns(make())
		for _, got := range ownTurns(make()) {
			scribbleWorld(&got.World)
		}
		spoiled := make()
		again := ownTurns(spoiled)
		scribbleWorld(&spoiled)
		for what, got := range want {
			if !alikeStep(kept[what], got) || !alikeStep(again[what], got) {
				t.Errorf("%s: %+v became %+v and %+v", what, got, kept[what], again[what])
			}
		}
	}
}

// P1: two answers from one world stay apart: what is done in the one is not seen in the other one.
func TestLedWorldsThatPart(t *testing.T) {
	w := impl.RemoveWorld(lateWorld(), 2).World
	was := cloneWorld(w)
	left, right := impl.JoinWorld(w, 1), impl.JoinWorld(w, 2)
	wantStep(t, "JoinWorld", left, shouldJoin(was, 1))
	wantStep(t, "JoinWorld", right, shouldJoin(was, 2))
	put := putOf(7, 9, 999, 4, 5, 6)
	wantStep(t, "AskWorld", impl.AskWorld(left.World, put), shouldAsk(shouldJoin(was, 1).World, put))
	wantStep(t, "RemoveWorld", impl.RemoveWorld(right.World, 4), shouldRemove(shouldJoin(was, 2).World, 4))
	wantStep(t, "RemoveWorld", impl.RemoveWorld(left.World, 5), shouldRemove(shouldJoin(was, 1).World, 5))
	if !alikeWorld(w, was) {
		t.Errorf("%+v became %+v", was, w)
	}
}

// P1: calls at the same time keep nothing that another one could see, also where some of them tell a code (a run with -race tells of it as well).
func TestLedWorldsBesideOneAnother(t *testing.T) {
	done := make(chan bool)
	shared := lateWorld()
	for worker := range int64(8) {
		id := 1 + worker%5
		tick, beat, remove, join, lose := shouldTick(lateWorld(), worker), shouldBeat(lateWorld(), id), shouldRemove(lateWorld(), id), shouldJoin(lateWorld(), id), shouldLose(lateWorld(), worker)
		go func() {
			right := true
			for range 60 {
				right = right && alikeStep(impl.TickWorld(shared, worker), tick) && alikeStep(impl.BeatWorld(shared, id), beat)
				right = right && alikeStep(impl.RemoveWorld(shared, id), remove) && alikeStep(impl.JoinWorld(shared, id), join)
				right = right && alikeStep(impl.LoseWorld(shared, worker), lose) && impl.CommittedIn(shared).Value == 5
			}
			done <- right
		}()
	}
	for range 8 {
		if !<-done {
			t.Error("a call answered otherwise beside others")
		}
	}
}
