package tests

import (
	"math"
	"reflect"
	"slices"
	"testing"

	"loop.example/g00357/impl"
)

// P1: what is wrong with a world is told, all else is zero, and what was handed in stays.
func TestWrongDrains(t *testing.T) {
	for i, x := range wrongWorlds() {
		wantWorldCode(t, "DrainWorld of a wrong world", impl.DrainWorld(x.w), x.code)
		if i%29 == 0 {
			w := roomyWorld(x.w)
			before := told(reflect.ValueOf(w))
			impl.DrainWorld(w)
			if after := told(reflect.ValueOf(w)); before != after {
				t.Fatalf("%s became %s", before, after)
			}
		}
	}
}

// P1: no argument is changed, not even what lies behind it, nor by a change of the answer; and the answer is new memory, though all have the same writes.
func TestDrainedWorldsStay(t *testing.T) {
	for _, was := range append(readWorlds(), fullWorld(), lateWorld()) {
		w := roomyWorld(was)
		before := told(reflect.ValueOf(w))
		got := impl.DrainWorld(w)
		wantOwnMemory(t, "DrainWorld", got, w)
		scribbleWorld(&got.World)
		if after := told(reflect.ValueOf(w)); before != after {
			t.Fatalf("%s became %s", before, after)
		}
		wantStep(t, "DrainWorld again", impl.DrainWorld(w), shouldDrain(was))
	}
}

// P1: calls at the same time keep nothing that another one could see (a run with -race tells of it as well).
func TestDrainsBesideOneAnother(t *testing.T) {
	done := make(chan bool)
	shared, want := storyWorld(), shouldDrain(storyWorld())
	for range 8 {
		go func() {
			right := true
			for range 40 {
				right = right && alikeStep(impl.DrainWorld(shared), want)
			}
			done <- right
		}()
	}
	for range 8 {
		if !<-done {
			t.Error("a call answered otherwise beside others")
		}
	}
}

// askAudit calls all functions that tell of a world whether it is one story.
func askAudit(w impl.World, session, seq int64) {
	impl.ChainRight(w)
	impl.LinearRight(w)
	impl.KeptRight(w)
	impl.OverIn(w)
	impl.IndexIn(w, session, seq)
}

// P1: a world with a fault is not right in any way, and its code is told ahead of a write that is not there; worlds of which they are made are right.
func TestWrongAudits(t *testing.T) {
	wantAudit(t, "the world that is spoilt", longWorld(), true, true, true)
	for _, x := range wrongWorlds() {
		wantAudit(t, "a wrong world", x.w, false, false, false)
		wantIntCode(t, "OverIn of a wrong world", impl.OverIn(x.w), x.code)
		for _, seq := range []int64{1, 0, 10, 999, math.MaxInt64} {
			wantIntCode(t, "IndexIn of a wrong world", impl.IndexIn(x.w, 1, seq), x.code)
		}
	}
}

// One thing that is out of its bounds makes a world that was right a wrong one, also where nothing was done in it.
func TestAuditsOfSpoiltWorlds(t *testing.T) {
	for _, spoil := range []func(w *impl.World){
		func(w *impl.World) { w.Now = 9001 },
		func(w *impl.World) { w.Events = 10000 },
		func(w *impl.World) { w.Chain.Epoch = 0 },
		func(w *impl.World) { w.Nodes[2].Id = 2 },
		func(w *impl.World) { w.Nodes[2].Epoch = 0 },
		func(w *impl.World) { w.Nodes[1].Epoch = 999 },
		func(w *impl.World) { w.Msgs = []impl.Msg{{}} },
		func(w *impl.World) { w.History = append(w.History, impl.Entry{Kind: 1}) },
		func(w *impl.World) { w.History = append(w.History, impl.Entry{Kind: 2, Start: w.Events, At: 41}) },
	} {
		for _, w := range []impl.World{auditedWorld(), impl.AskWorld(impl.NewWorld(3).World, dropOf(1, 1, 1)).World} {
			wantAudit(t, "a right world", w, true, true, true)
			spoil(&w)
			wantAudit(t, "a spoilt world", w, false, false, false)
			if code := impl.WorldFault(w); code == impl.OK || impl.OverIn(w) != (impl.IntResult{Code: code}) || impl.IndexIn(w, 1, 1) != (impl.IntResult{Code: code}) {
				t.Errorf("OverIn(%+v) = %+v, IndexIn = %+v", w, impl.OverIn(w), impl.IndexIn(w, 1, 1))
			}
		}
	}
}

// P1: of a session and a seq that no write has there is none, be they out of their bounds or not.
func TestWrongTicketsOfIndexes(t *testing.T) {
	w := auditedWorld()
	numbers := []int64{0, 1, 2, 3, 4, 5, 9, 10, 999, 1000, -1, 1 << 32, 1<<32 + 1, -1<<32 + 1, math.MinInt64, math.MinInt64 + 1, math.MaxInt64}
	for _, session := range numbers {
		for _, seq := range numbers {
			if got, want := impl.IndexIn(w, session, seq), shouldIndex(w, session, seq); got != want {
				t.Errorf("IndexIn(%d, %d) = %+v, want %+v", session, seq, got, want)
			}
			wantIntCode(t, "IndexIn where nothing is at the tail", impl.IndexIn(impl.NewWorld(2).World, session, seq), impl.ErrNone)
		}
	}
}

// P1: no argument is changed, not even what lies behind it, whatever is told of it.
func TestAuditedWorldsStay(t *testing.T) {
	worlds := append(readWorlds(), auditedWorld(), fullWorld(), lateWorld())
	for i, x := range wrongWorlds() {
		if i%29 == 0 {
			worlds = append(worlds, x.w)
		}
	}
	for _, was := range worlds {
		w := roomyWorld(was)
		before := told(reflect.ValueOf(w))
		askAudit(w, 1, 1)
		if after := told(reflect.ValueOf(w)); before != after {
			t.Fatalf("%s became %s", before, after)
		}
	}
}

// P1: the lists of a drained world are apart also where those that were given were one.
func TestDrainsOfOneVector(t *testing.T) {
	one, writes := []int64{1, 2, 3}, []impl.Write{}
	for seq := int64(1); seq <= 6; seq++ {
		writes = append(writes, impl.Write{Kind: 1, Id: seq, Vec: one, Session: 1, Seq: seq})
	}
	for count := range 7 {
		w := impl.World{Events: 9, Chain: impl.Chain{Epoch: 1, Ids: one}}
		for id := int64(1); id <= 3; id++ {
			w.Nodes = append(w.Nodes, impl.Node{Id: id, Up: true, Epoch: 1, Writes: writes[:count]})
		}
		w.Nodes[0].Writes = writes
		w.History = []impl.Entry{{Kind: 2, Start: 1, Vec: one, Query: one}, {Kind: 1, Session: 1, Seq: 2, Start: 1, Vec: one, Query: one}}
		w.Msgs = []impl.Msg{forwardOf(1, 1, 2, 1, writes[0]), forwardOf(1, 2, 3, 1, writes[0])}
		want, before := shouldDrain(w), told(reflect.ValueOf(w))
		got := impl.DrainWorld(w)
		wantOwnMemory(t, "DrainWorld", got, w)
		wantStep(t, "DrainWorld", got, want)
		scribbleWorld(&got.World)
		if after := told(reflect.ValueOf(w)); before != after {
			t.Fatalf("%s became %s", before, after)
		}
	}
}

// P1: two drained worlds from one world stay apart, and so do those that come of them.
func TestDrainedWorldsThatPart(t *testing.T) {
	w := auditedWorld()
	left, right := impl.DrainWorld(w), impl.DrainWorld(w)
	wantOwnMemory(t, "DrainWorld twice", left, right, w)
	put := putOf(9, 9, 9, 9, 9, 9)
	asked := impl.AskWorld(left.World, put).World
	scribbleWorld(&asked)
	wantStep(t, "DrainWorld", left, shouldDrain(w))
	scribbleWorld(&left.World)
	wantStep(t, "DrainWorld", right, shouldDrain(auditedWorld()))
	wantStill(t, "DrainWorld again", impl.DrainWorld(right.World), right.World)
	if !alikeWorld(w, auditedWorld()) {
		t.Errorf("%+v became %+v", auditedWorld(), w)
	}
}

// P1: what is told is the same whatever was called ahead of it, also behind calls that told a code, and behind a change of what was asked.
func TestAuditsKeepNothing(t *testing.T) {
	for _, between := range wrongWorlds()[:40] {
		w := auditedWorld()
		wantAudited(t, "ahead of another one", w)
		askAudit(between.w, 1, 1)
		scribbleWorld(&w)
		askAudit(w, 1, 1)
		wantAudited(t, "behind another one", auditedWorld())
		if got := impl.IndexIn(auditedWorld(), 1, 3); got != (impl.IntResult{Value: 4}) {
			t.Fatalf("IndexIn = %+v", got)
		}
	}
}

// P1: no list and one without anything in it are the same to all functions.
func TestAuditsOfEmptyLists(t *testing.T) {
	for _, was := range []impl.World{impl.NewWorld(3).World, auditedWorld(), longWorld()} {
		empty, none := cloneWorld(was), cloneWorld(was)
		for i := range was.History {
			if len(was.History[i].Vec) == 0 {
				empty.History[i].Vec, none.History[i].Vec = []int64{}, nil
			}
			if len(was.History[i].Hits) == 0 {
				empty.History[i].Hits, none.History[i].Hits = []impl.Hit{}, nil
			}
			if len(was.History[i].Query) == 0 {
				empty.History[i].Query, none.History[i].Query = []int64{}, nil
			}
		}
		for i := range was.Nodes {
			if len(was.Nodes[i].Writes) == 0 {
				empty.Nodes[i].Writes, none.Nodes[i].Writes = []impl.Write{}, nil
			}
			for j, x := range was.Nodes[i].Writes {
				if len(x.Vec) == 0 {
					empty.Nodes[i].Writes[j].Vec, none.Nodes[i].Writes[j].Vec = []int64{}, nil
				}
			}
		}
		if len(was.Msgs) == 0 {
			empty.Msgs, none.Msgs = []impl.Msg{}, nil
		}
		wantAudit(t, "no lists", none, true, true, true)
		wantAudit(t, "lists without anything in them", empty, true, true, true)
		wantStep(t, "DrainWorld", impl.DrainWorld(empty), shouldDrain(was))
		wantStep(t, "DrainWorld", impl.DrainWorld(none), shouldDrain(was))
		half := cloneWorld(empty)
		half.Nodes[0] = none.Nodes[0]
		wantAudit(t, "lists without anything in them beside none", half, true, true, true)
	}
}

// P1: calls at the same time keep nothing that another one could see (a run with -race tells of it as well).
func TestAuditsBesideOneAnother(t *testing.T) {
	done := make(chan bool)
	shared := auditedWorld()
	bent := auditedWorld()
	bent.History[0].At, bent.Nodes[1].Clean = 2, 5
	for range 8 {
		go func() {
			right := true
			for range 60 {
				right = right && impl.ChainRight(shared) && impl.KeptRight(shared) && impl.LinearRight(shared)
				right = right && !impl.ChainRight(bent) && !impl.KeptRight(bent) && !impl.LinearRight(bent)
				right = right && impl.OverIn(shared).Value == 8 && impl.IndexIn(shared, 1, 3).Value == 4
			}
			done <- right
		}()
	}
	if list := []bool{<-done, <-done, <-done, <-done, <-done, <-done, <-done, <-done}; slices.Contains(list, false) {
		t.Error("a call answered otherwise beside others")
	}
}
