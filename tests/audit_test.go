package tests

import (
	"fmt"
	"math/rand"
	"reflect"
	"slices"
	"testing"

	"loop.example/g00357/impl"
)

// takesOver is what one has behind a turn of the one ahead of it, and whether that is more.
func takesOver(ahead, n impl.Node) (impl.Node, bool) {
	if int64(len(n.Writes)) >= ahead.Sure {
		return n, false
	}
	once := onceOf(n.Writes, ahead.Writes[len(n.Writes)])
	if once.Code != impl.OK || !once.New {
		return n, false
	}
	n.Writes = cloneWrites(once.Writes)
	return n, true
}

// drainedDown is one round from the head on.
func drainedDown(w *impl.World) bool {
	turned := false
	for _, id := range w.Chain.Ids {
		n, next := &w.Nodes[id-1], besideOf(*w, id, 1)
		if !memberOf(*w, id) {
			continue
		}
		turned = turned || n.Sure < int64(len(n.Writes))
		n.Sure = int64(len(n.Writes))
		if memberOf(*w, next) {
			behind, more := takesOver(*n, w.Nodes[next-1])
			w.Nodes[next-1] = behind
			turned = turned || more
		}
	}
	return turned
}

// drainedUp is one round from the tail on.
func drainedUp(w *impl.World) bool {
	turned := false
	for place := len(w.Chain.Ids) - 1; place >= 0; place-- {
		id := w.Chain.Ids[place]
		n, next := &w.Nodes[id-1], besideOf(*w, id, 1)
		was := n.Clean
		switch {
		case !memberOf(*w, id):
		case next == 0:
			n.Clean = n.Sure
		case memberOf(*w, next):
			n.Clean = max(n.Clean, min(n.Sure, w.Nodes[next-1].Clean))
		}
		turned = turned || n.Clean != was
	}
	return turned
}

func shouldDrain(w impl.World) impl.WorldResult {
	w = cloneWorld(w)
	w.Msgs = nil
	moved := false
	for again := true; again; moved = moved || again {
		down := drainedDown(&w)
		again = drainedUp(&w) || down
	}
	return impl.WorldResult{Moved: moved, World: w}
}

// wholeNode has all of these, and knows them to be at the tail.
func wholeNode(n impl.Node, writes []impl.Write) impl.Node {
	n.Writes, n.Sure, n.Clean = cloneWrites(writes), int64(len(writes)), int64(len(writes))
	return n
}

// All that the head has comes to the tail, and all know it; no event is told, and what is under way is gone. All that is told is written out.
func TestDrainsOfExamples(t *testing.T) {
	w := storyWorld()
	w.Msgs = []impl.Msg{ackOf(3, 2, 1, 0), forwardOf(2, 4, 1, 3, storyWrites()[0])}
	want := cloneWorld(w)
	want.Msgs = nil
	for id := int64(1); id <= 3; id++ {
		want = withNode(want, wholeNode(nodeIn(w, id), storyWrites()))
	}
	got := impl.DrainWorld(w)
	wantMoved(t, "DrainWorld", got, want)
	wantStill(t, "DrainWorld again", impl.DrainWorld(got.World), want)
	for node := int64(1); node <= 3; node++ {
		wantRead(t, got.World, node, 8, 7, 6, 0, 0)
	}
	asked := impl.AskWorld(impl.NewWorld(1).World, dropOf(5, 1, 1)).World
	wantMoved(t, "DrainWorld of the only one", impl.DrainWorld(asked), withNode(asked, wholeNode(nodeIn(asked, 1), []impl.Write{dropOf(5, 1, 1)})))
}

// Where just messages are under way nothing Moved, but they are gone; where there is nothing at all, nothing is.
func TestDrainsOfMessagesAlone(t *testing.T) {
	for n := int64(1); n <= 5; n++ {
		w := impl.NewWorld(n).World
		wantStill(t, "DrainWorld of nothing", impl.DrainWorld(w), w)
		for id := int64(2); id <= n; id++ {
			w = impl.AckWorld(w, id).World
		}
		wantStill(t, "DrainWorld of messages", impl.DrainWorld(w), withMsgs(w, nil))
	}
	full := fullWorld()
	full.Events = 9999
	wantMoved(t, "DrainWorld at 9999 events", impl.DrainWorld(full), shouldDrain(full).World)
}

// What is sure ahead of one that is down stays there; what it had stays its own, and behind it the others go on by themselves.
func TestDrainsWithOneDown(t *testing.T) {
	writes := storyWrites()
	for id := int64(1); id <= 3; id++ {
		w := downIn(storyWorld(), id)
		want := cloneWorld(w)
		switch id {
		case 1:
			want = withNode(withNode(want, wholeNode(nodeIn(w, 2), writes[:6])), wholeNode(nodeIn(w, 3), writes[:6]))
		case 2:
			want = withNode(want, wholeNode(nodeIn(w, 3), writes[:5]))
		case 3:
			want = withNode(withNode(want, cleanedOf(nodeIn(w, 1), 3)), cleanedOf(wholeNode(nodeIn(w, 2), writes), 3))
		}
		got := impl.DrainWorld(w)
		wantMoved(t, fmt.Sprint("DrainWorld, down is ", id), got, want)
		up := impl.StartWorld(got.World, id).World
		want = eventOf(want)
		for id := int64(1); id <= 3; id++ {
			want = withNode(want, wholeNode(nodeIn(up, id), writes))
		}
		wantMoved(t, "DrainWorld behind its start", impl.DrainWorld(up), want)
	}
}

// One that is out of the chain has no part in it, whether it is Up or not, and nobody waits for it.
func TestDrainsWithoutTheOthers(t *testing.T) {
	w := leasedAt(5, 7, 3, 3)
	w.Chain.Ids = []int64{4, 2}
	for i := range w.Nodes {
		w.Nodes[i].Writes = storyWrites()[:i]
	}
	w.Nodes[0].Epoch, w.Nodes[2].Epoch = 7, 6
	want := withNode(withNode(w, wholeNode(nodeIn(w, 4), storyWrites()[:3])), wholeNode(nodeIn(w, 2), storyWrites()[:3]))
	wantMoved(t, "DrainWorld", impl.DrainWorld(w), want)
}

// 40 writes go down a chain of five, however few of them were there.
func TestDrainsOfFullNodes(t *testing.T) {
	for n := int64(1); n <= 5; n++ {
		for _, count := range []int64{1, 39, 40} {
			w := leasedAt(n, 7, 3, 3)
			w.Nodes[0].Writes = fullWrites(count)
			want := cloneWorld(w)
			for id := int64(1); id <= n; id++ {
				want = withNode(want, wholeNode(nodeIn(w, id), fullWrites(count)))
			}
			wantMoved(t, "DrainWorld", impl.DrainWorld(w), want)
		}
	}
}

// What the next one cannot take it does not take: what it has already, at whichever place, and what is old to it; then it ends.
func TestDrainsOfOtherWrites(t *testing.T) {
	for _, had := range [][]impl.Write{
		{putOf(6, 2, 1, 2, 0, 0)},
		{putOf(9, 1, 2, 9, 9, 9)},
		{dropOf(9, 1, 999)},
		{putOf(9, 2, 5, 9, 9, 9), dropOf(9, 1, 2)},
		{putOf(9, 9, 1, 9, 9, 9)},
		fullWrites(40),
	} {
		for ahead := range int64(8) {
			w := leasedAt(3, 7, 3, 3)
			w.Nodes[0].Writes, w.Nodes[1].Writes = storyWrites()[:ahead], had
			got := impl.DrainWorld(w)
			wantStep(t, "DrainWorld of other writes", got, shouldDrain(w))
			wantStep(t, "DrainWorld again", impl.DrainWorld(got.World), impl.WorldResult{World: got.World})
		}
	}
}

// P16: where all of the chain are members all that the head has comes to be at the tail, and all know it; in any case it is done with one call.
func TestDrainsOfManyWorlds(t *testing.T) {
	whole, moved := 0, 0
	for _, w := range slices.Concat(toldWorlds(t), bentWorlds(), ledWorlds()) {
		got := impl.DrainWorld(w)
		wantStep(t, "DrainWorld", got, shouldDrain(w))
		wantStill(t, "DrainWorld again", impl.DrainWorld(got.World), got.World)
		if got.Moved {
			moved++
		}
		isWhole := !slices.ContainsFunc(w.Chain.Ids, func(id int64) bool { return !memberOf(w, id) })
		if !isWhole {
			continue
		}
		whole++
		for _, id := range w.Chain.Ids {
			if n := got.World.Nodes[id-1]; !alikeNode(n, wholeNode(n, w.Nodes[w.Chain.Ids[0]-1].Writes)) {
				t.Fatalf("DrainWorld(%+v): %+v", w, n)
			}
		}
	}
	if whole < 100 || moved < 100 {
		t.Errorf("%d were whole, %d moved", whole, moved)
	}
}

// What is at the tail stays there when all is drained, and each that may answer tells it.
func TestReadsBehindDrains(t *testing.T) {
	from := rand.New(rand.NewSource(81))
	read := 0
	for _, w := range toldWorlds(t) {
		w.History = nil
		drained := impl.DrainWorld(w).World
		was, is := committedOf(w), committedOf(drained)
		if len(is) < len(was) || !slices.EqualFunc(is[:len(was)], was, alike) {
			t.Fatalf("%+v became %+v at the tail", was, is)
		}
		for node := int64(1); node <= int64(len(w.Nodes)); node++ {
			id := 1 + from.Int63n(9)
			got := impl.ReadWorld(drained, node, id)
			wantAnswer(t, "ReadWorld", got, shouldRead(drained, node, id))
			if got.Code == impl.OK {
				read++
			}
		}
	}
	if read < 50 {
		t.Errorf("%d were read", read)
	}
}

// P1: what is wrong with a world is told, all else is zero, and what was handed in stays.
func TestWrongDrains(t *testing.T) {
	for i, x := range wrongWorlds() {
		wantWorldCode(t, "DrainWorld of a wrong world", impl.DrainWorld(x.w), x.code)
		if i%29 == 0 {
			w := roomyWorld(x.w)
			before := told(reflect.ValueOf(w))
			impl.DrainWorld(w)
			if after := told(reflect.ValueOf(w)); before != after {
				t.Fatalf("%s became %s", before, after)
			}
		}
	}
}

// P1: no argument is changed, not even what lies behind it, nor by a change of the answer; and the answer is new memory, though all have the same writes.
func TestDrainedWorldsStay(t *testing.T) {
	for _, was := range append(readWorlds(), fullWorld(), lateWorld()) {
		w := roomyWorld(was)
		before := told(reflect.ValueOf(w))
		got := impl.DrainWorld(w)
		wantOwnMemory(t, "DrainWorld", got, w)
		scribbleWorld(&got.World)
		if after := told(reflect.ValueOf(w)); before != after {
			t.Fatalf("%s became %s", before, after)
		}
		wantStep(t, "DrainWorld again", impl.DrainWorld(w), shouldDrain(was))
	}
}

// P1: calls at the same time keep nothing that another one could see (a run with -race tells of it as well).
func TestDrainsBesideOneAnother(t *testing.T) {
	done := make(chan bool)
	shared, want := storyWorld(), shouldDrain(storyWorld())
	for range 8 {
		go func() {
			right := true
			for range 40 {
				right = right && alikeStep(impl.DrainWorld(shared), want)
			}
			done <- right
		}()
	}
	for range 8 {
		if !<-done {
			t.Error("a call answered otherwise beside others")
		}
	}
}
