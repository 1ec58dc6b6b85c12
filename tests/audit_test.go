package tests

import (
	"fmt"
	"math/rand"
	"slices"
	"testing"

	"loop.example/g00357/impl"
)

// All that the head has comes to the tail, and all know it; no event is told, and what is under way is gone. All that is told is written out.
func TestDrainsOfExamples(t *testing.T) {
	w := storyWorld()
	w.Msgs = []impl.Msg{ackOf(3, 2, 1, 0), forwardOf(2, 4, 1, 3, storyWrites()[0])}
	want := cloneWorld(w)
	want.Msgs = nil
	for id := int64(1); id <= 3; id++ {
		want = withNode(want, wholeNode(nodeIn(w, id), storyWrites()))
	}
	got := impl.DrainWorld(w)
	wantMoved(t, "DrainWorld", got, want)
	wantStill(t, "DrainWorld again", impl.DrainWorld(got.World), want)
	for node := int64(1); node <= 3; node++ {
		wantRead(t, got.World, node, 8, 7, 6, 0, 0)
	}
	asked := impl.AskWorld(impl.NewWorld(1).World, dropOf(5, 1, 1)).World
	wantMoved(t, "DrainWorld of the only one", impl.DrainWorld(asked), withNode(asked, wholeNode(nodeIn(asked, 1), []impl.Write{dropOf(5, 1, 1)})))
}

// Where just messages are under way nothing Moved, but they are gone; where there is nothing at all, nothing is.
func TestDrainsOfMessagesAlone(t *testing.T) {
	for n := int64(1); n <= 5; n++ {
		w := impl.NewWorld(n).World
		wantStill(t, "DrainWorld of nothing", impl.DrainWorld(w), w)
		for id := int64(2); id <= n; id++ {
			w = impl.AckWorld(w, id).World
		}
		wantStill(t, "DrainWorld of messages", impl.DrainWorld(w), withMsgs(w, nil))
	}
	full := fullWorld()
	full.Events = 9999
	wantMoved(t, "DrainWorld at 9999 events", impl.DrainWorld(full), shouldDrain(full).World)
}

// What is sure ahead of one that is down stays there; what it had stays its own, and behind it the others go on by themselves.
func TestDrainsWithOneDown(t *testing.T) {
	writes := storyWrites()
	for id := int64(1); id <= 3; id++ {
		w := downIn(storyWorld(), id)
		want := cloneWorld(w)
		switch id {
		case 1:
			want = withNode(withNode(want, wholeNode(nodeIn(w, 2), writes[:6])), wholeNode(nodeIn(w, 3), writes[:6]))
		case 2:
			want = withNode(want, wholeNode(nodeIn(w, 3), writes[:5]))
		case 3:
			want = withNode(withNode(want, cleanedOf(nodeIn(w, 1), 3)), cleanedOf(wholeNode(nodeIn(w, 2), writes), 3))
		}
		got := impl.DrainWorld(w)
		wantMoved(t, fmt.Sprint("DrainWorld, down is ", id), got, want)
		up := impl.StartWorld(got.World, id).World
		want = eventOf(want)
		for id := int64(1); id <= 3; id++ {
			want = withNode(want, wholeNode(nodeIn(up, id), writes))
		}
		wantMoved(t, "DrainWorld behind its start", impl.DrainWorld(up), want)
	}
}

// One that is out of the chain has no part in it, whether it is Up or not, and nobody waits for it.
func TestDrainsWithoutTheOthers(t *testing.T) {
	w := leasedAt(5, 7, 3, 3)
	w.Chain.Ids = []int64{4, 2}
	for i := range w.Nodes {
		w.Nodes[i].Writes = storyWrites()[:i]
	}
	w.Nodes[0].Epoch, w.Nodes[2].Epoch = 7, 6
	want := withNode(withNode(w, wholeNode(nodeIn(w, 4), storyWrites()[:3])), wholeNode(nodeIn(w, 2), storyWrites()[:3]))
	wantMoved(t, "DrainWorld", impl.DrainWorld(w), want)
}

// 40 writes go down a chain of five, however few of them were there.
func TestDrainsOfFullNodes(t *testing.T) {
	for n := int64(1); n <= 5; n++ {
		for _, count := range []int64{1, 39, 40} {
			w := leasedAt(n, 7, 3, 3)
			w.Nodes[0].Writes = fullWrites(count)
			want := cloneWorld(w)
			for id := int64(1); id <= n; id++ {
				want = withNode(want, wholeNode(nodeIn(w, id), fullWrites(count)))
			}
			wantMoved(t, "DrainWorld", impl.DrainWorld(w), want)
		}
	}
}

// What the next one cannot take it does not take: what it has already, at whichever place, and what is old to it; then it ends.
func TestDrainsOfOtherWrites(t *testing.T) {
	for _, had := range [][]impl.Write{
		{putOf(6, 2, 1, 2, 0, 0)},
		{putOf(9, 1, 2, 9, 9, 9)},
		{dropOf(9, 1, 999)},
		{putOf(9, 2, 5, 9, 9, 9), dropOf(9, 1, 2)},
		{putOf(9, 9, 1, 9, 9, 9)},
		fullWrites(40),
	} {
		for ahead := range int64(8) {
			w := leasedAt(3, 7, 3, 3)
			w.Nodes[0].Writes, w.Nodes[1].Writes = storyWrites()[:ahead], had
			got := impl.DrainWorld(w)
			wantStep(t, "DrainWorld of other writes", got, shouldDrain(w))
			wantStep(t, "DrainWorld again", impl.DrainWorld(got.World), impl.WorldResult{World: got.World})
		}
	}
}

// P16: where all of the chain are members all that the head has comes to be at the tail, and all know it; in any case it is done with one call.
func TestDrainsOfManyWorlds(t *testing.T) {
	whole, moved := 0, 0
	for _, w := range slices.Concat(toldWorlds(t), bentWorlds(), ledWorlds()) {
		got := impl.DrainWorld(w)
		wantStep(t, "DrainWorld", got, shouldDrain(w))
		wantStill(t, "DrainWorld again", impl.DrainWorld(got.World), got.World)
		if got.Moved {
			moved++
		}
		isWhole := !slices.ContainsFunc(w.Chain.Ids, func(id int64) bool { return !memberOf(w, id) })
		if !isWhole {
			continue
		}
		whole++
		for _, id := range w.Chain.Ids {
			if n := got.World.Nodes[id-1]; !alikeNode(n, wholeNode(n, w.Nodes[w.Chain.Ids[0]-1].Writes)) {
				t.Fatalf("DrainWorld(%+v): %+v", w, n)
			}
		}
	}
	if whole < 100 || moved < 100 {
		t.Errorf("%d were whole, %d moved", whole, moved)
	}
}

// What is at the tail stays there when all is drained, and each that may answer tells it.
func TestReadsBehindDrains(t *testing.T) {
	from := rand.New(rand.NewSource(81))
	read := 0
	for _, w := range toldWorlds(t) {
		w.History = nil
		drained := impl.DrainWorld(w).World
		was, is := committedOf(w), committedOf(drained)
		if len(is) < len(was) || !slices.EqualFunc(is[:len(was)], was, alike) {
			t.Fatalf("%+v became %+v at the tail", was, is)
		}
		for node := int64(1); node <= int64(len(w.Nodes)); node++ {
			id := 1 + from.Int63n(9)
			got := impl.ReadWorld(drained, node, id)
			wantAnswer(t, "ReadWorld", got, shouldRead(drained, node, id))
			if got.Code == impl.OK {
				read++
			}
		}
	}
	if read < 50 {
		t.Errorf("%d were read", read)
	}
}

// All that is told of worlds that are one story, written out.
func TestAuditsOfExamples(t *testing.T) {
	w := auditedWorld()
	wantAudit(t, "a world that was audited", w, true, true, true)
	wantInt(t, "OverIn", impl.OverIn(w), 8)
	for at, x := range storyWrites()[:4] {
		wantInt(t, "IndexIn", impl.IndexIn(w, x.Session, x.Seq), int64(at)+1)
	}
	for _, x := range storyWrites()[4:] {
		wantIntCode(t, "IndexIn of what is not sure at the tail", impl.IndexIn(w, x.Session, x.Seq), impl.ErrNone)
	}
	for n := int64(1); n <= 5; n++ {
		w := impl.NewWorld(n).World
		wantAudit(t, "a new world", w, true, true, true)
		wantInt(t, "OverIn of a new world", impl.OverIn(w), 0)
		wantIntCode(t, "IndexIn of a new world", impl.IndexIn(w, 1, 1), impl.ErrNone)
	}
	w = longWorld()
	wantInt(t, "OverIn", impl.OverIn(w), 4)
	wantAudit(t, "a chain of 4, 2 and 5", w, true, true, true)
}

// A write at the head of three is one story at each step that takes it to the tail, and behind them when it is over and read.
func TestAuditsOfOneWrite(t *testing.T) {
	put := putOf(5, 1, 1, 5, 0, 0)
	steps := []func(w impl.World) impl.World{
		func(w impl.World) impl.World { return impl.AskWorld(w, put).World },
		func(w impl.World) impl.World { return impl.SyncWorld(w, 1).World },
		func(w impl.World) impl.World { return impl.SendWorld(w, 1, 1).World },
		func(w impl.World) impl.World { return impl.HearWorld(w, 0).World },
		func(w impl.World) impl.World { return impl.SyncWorld(w, 2).World },
		func(w impl.World) impl.World { return impl.SendWorld(w, 2, 1).World },
		func(w impl.World) impl.World { return impl.HearWorld(w, 1).World },
		func(w impl.World) impl.World { return impl.SyncWorld(w, 3).World },
		func(w impl.World) impl.World { return impl.FinishWorld(w, 1, 1).World },
		func(w impl.World) impl.World { return impl.ReadWorld(w, 1, 5).World },
		func(w impl.World) impl.World { return impl.FindWorld(w, 3, []int64{5, 0, 0}, 1).World },
	}
	w := leasedAt(3, 1, 0, 9)
	for i, step := range steps {
		w = step(w)
		wantAudit(t, "one write", w, true, true, true)
		wantInt(t, "OverIn", impl.OverIn(w), max(0, int64(i)-7))
		if got := impl.IndexIn(w, 1, 1); i < 7 && got.Code != impl.ErrNone || i >= 7 && got != (impl.IntResult{Value: 1}) {
			t.Fatalf("IndexIn behind step %d: %+v", i, got)
		}
	}
}

// What one has are the first writes that the one ahead has surely: as many as those, but not one more, and not less of them than the one behind.
func TestChainsOfFirstWrites(t *testing.T) {
	writes := storyWrites()
	for count := range int64(8) {
		for sure := range count + 1 {
			for behind := range int64(8) {
				for place := range 2 {
					w := leasedAt(3, 7, 3, 3)
					for i := range w.Nodes[:place] {
						w.Nodes[i].Writes, w.Nodes[i].Sure = writes, 7
					}
					w.Nodes[place].Writes, w.Nodes[place].Sure = writes[:count], sure
					w.Nodes[place+1].Writes, w.Nodes[place+1].Sure = writes[:behind], behind
					if got := impl.ChainRight(w); got != (behind <= sure) {
						t.Fatalf("ChainRight, %d are sure and %d behind: %v", sure, behind, got)
					}
				}
			}
		}
	}
}

// One write that is another one is seen, at each place and whatever in it is another, unless the one behind has it not yet.
func TestChainsOfOtherWrites(t *testing.T) {
	for at, x := range storyWrites() {
		for _, other := range otherWrites(x) {
			for place := range 3 {
				w := storyWorld()
				if at >= len(w.Nodes[place].Writes) {
					continue
				}
				w.Nodes[place].Writes[at] = other
				if impl.WorldFault(w) != impl.OK {
					continue
				}
				if want := place == 0 && at == 6; impl.ChainRight(w) != want {
					t.Fatalf("ChainRight of %+v in the place of %+v: %v", other, x, !want)
				}
			}
		}
	}
	w := storyWorld()
	w.Nodes[1].Writes[1].Id, w.Nodes[2].Writes[1].Id = 9, 9
	wantAudit(t, "two that are alike, and not as the head", w, false, true, true)
	w.Nodes[0].Writes[1].Id = 9
	wantAudit(t, "three that are alike", w, true, true, true)
}

// None knows more to be at the tail than is sure there: as much, but not one more.
func TestChainsOfCleanWrites(t *testing.T) {
	for sure := range int64(6) {
		for clean := range int64(6) {
			for place := range 2 {
				w := storyWorld()
				w.Nodes[0].Clean, w.Nodes[1].Clean, w.Nodes[2].Clean = 0, 0, 0
				w.Nodes[2].Sure, w.Nodes[place].Clean = sure, clean
				if got := impl.ChainRight(w); got != (clean <= sure) {
					t.Fatalf("ChainRight, %d are sure at the tail and %d clean: %v", sure, clean, got)
				}
			}
		}
		w := storyWorld()
		w.Nodes[0].Clean, w.Nodes[1].Clean = 0, 0
		w.Nodes[2].Sure, w.Nodes[2].Clean = sure, sure
		wantAudit(t, "a tail of which all that is sure is clean", w, true, true, true)
	}
}

// Who is down has a place in the chain as before, also of an older Epoch: what it has is asked like that of the others.
func TestChainsWithOneDown(t *testing.T) {
	writes := storyWrites()
	for id := int64(1); id <= 3; id++ {
		for count := range int64(8) {
			for _, epoch := range []int64{0, 2, 3} {
				w := storyWorld()
				w.Nodes[0].Clean, w.Nodes[1].Clean = 0, 0
				w.Nodes[id-1] = impl.Node{Id: id, Epoch: epoch, Writes: writes[:count], Sure: count}
				want := [][]bool{
					{false, false, false, false, false, false, true, true},
					{false, false, false, false, false, true, true, true},
					{true, true, true, true, true, true, true, false},
				}[id-1][count]
				if got := impl.ChainRight(w); got != want {
					t.Fatalf("ChainRight, %d is down with %d: %v", id, count, got)
				}
			}
		}
		w := downIn(storyWorld(), id)
		wantAudit(t, "a world with one down", w, true, true, true)
		w.Nodes[id-1].Writes[0].Id = 9
		wantAudit(t, "one that is down with another write", w, false, true, true)
	}
}

// A tail that is down is sure of all that it has, and the others may know of so much, but not of more.
func TestCleanWritesWithTheTailDown(t *testing.T) {
	for clean := range int64(8) {
		w := downIn(storyWorld(), 3)
		w.Nodes[0].Clean = clean
		wantAudit(t, "a tail that is down", w, clean <= 5, true, true)
		w = downIn(storyWorld(), 3)
		w.Nodes[1].Clean = min(clean, 6)
		wantAudit(t, "a tail that is down", w, clean <= 5, true, true)
	}
}

// The chain is gone through as it stands, not by the Ids, and nobody out of it is asked.
func TestChainsInTheirOrder(t *testing.T) {
	writes := storyWrites()
	for _, ids := range allOrders() {
		if len(ids) > 4 {
			continue
		}
		w := leasedAt(5, 7, 3, 3)
		w.Chain.Ids = ids
		for i := range w.Nodes {
			w.Nodes[i].Writes, w.Nodes[i].Sure, w.Nodes[i].Clean = []impl.Write{dropOf(9, 9, 9)}, 1, 1
		}
		for place, id := range ids {
			w.Nodes[id-1].Writes, w.Nodes[id-1].Sure, w.Nodes[id-1].Clean = writes[:5-place], int64(5-place), 0
		}
		if !impl.ChainRight(w) {
			t.Fatalf("ChainRight(%+v) is not so", w)
		}
		slices.Reverse(w.Chain.Ids)
		if impl.ChainRight(w) != (len(ids) == 1) {
			t.Fatalf("ChainRight(%+v), turned round", w)
		}
	}
	w := storyWorld()
	w.Nodes[3].Epoch = 3
	for clean := range int64(8) {
		w.Chain.Ids, w.Nodes[3].Clean = []int64{4}, clean
		wantAudit(t, "a chain of one that has all", w, true, true, true)
	}
	w.Chain.Ids = []int64{5}
	wantAudit(t, "a chain of one that has nothing, and is down", w, true, true, true)
}

// IndexIn looks at what is sure at the tail alone: neither at what is not sure there, nor at the others, nor at the entries.
func TestIndexesOfTheTail(t *testing.T) {
	writes := fullWrites(40)
	for _, sure := range []int64{0, 1, 2, 20, 39, 40} {
		w := leasedAt(2, 7, 3, 3)
		w.Nodes[0].Writes, w.Nodes[0].Sure = writes, 40
		w.Nodes[1].Writes, w.Nodes[1].Sure = writes, sure
		w.Events, w.History = 99, fullHistory(60)
		for at, x := range writes {
			got := impl.IndexIn(w, x.Session, x.Seq)
			if int64(at) < sure {
				wantInt(t, "IndexIn", got, int64(at)+1)
			} else {
				wantIntCode(t, "IndexIn of what is not sure", got, impl.ErrNone)
			}
		}
		wantIntCode(t, "IndexIn of another session", impl.IndexIn(w, 2, 1), impl.ErrNone)
		wantIntCode(t, "IndexIn of another seq", impl.IndexIn(w, 1, 2), impl.ErrNone)
	}
}

// OverIn counts entries of all kinds, as many as there may be; those that are not over do not count, whatever At they have.
func TestOverEntries(t *testing.T) {
	for _, n := range []int64{0, 1, 2, 59, 60} {
		w := leasedAt(1, 1, 0, 0)
		w.Events, w.History = 99, fullHistory(n)
		wantInt(t, "OverIn", impl.OverIn(w), n)
		for i := range w.History {
			w.History[i].End = 0
			wantInt(t, "OverIn where some are not over", impl.OverIn(w), n-int64(i)-1)
		}
	}
	for kind := int64(1); kind <= 3; kind++ {
		w := withHistory(leasedAt(1, 1, 0, 0), []impl.Entry{{Kind: kind, Start: 1, At: 40}, {Kind: kind, Start: 1, End: 1}})
		w.Events = 1
		wantInt(t, "OverIn", impl.OverIn(w), 1)
	}
}

// A write that is over has its place at the tail as At, and 0 where it has none; what is not over, and what is no write, may have any.
func TestKeptWrites(t *testing.T) {
	for place, x := range append(storyWrites(), dropOf(1, 9, 9), impl.Write{Session: 0, Seq: 0}, impl.Write{Session: 10, Seq: 1}, impl.Write{Session: 1, Seq: 1000}, impl.Write{Session: -1, Seq: -1}) {
		index := int64(place) + 1
		if index > 4 {
			index = 0
		}
		for at := range int64(41) {
			e := impl.Entry{Kind: 1, Session: x.Session, Seq: x.Seq, Start: 1, End: 40, At: at}
			w := withHistory(storyWorld(), []impl.Entry{e})
			wantAudit(t, fmt.Sprint("a write that is over at ", at, ", and is at ", index), w, true, at == index, at == index)
			w.History[0].End = 0
			wantAudit(t, "a write that is not over", w, true, true, true)
			for kind := int64(2); kind <= 3; kind++ {
				e.Kind = kind
				if got := impl.KeptRight(withHistory(storyWorld(), []impl.Entry{e})); !got {
					t.Fatalf("KeptRight of no write: %v", got)
				}
			}
		}
	}
}

// One entry of many is seen wherever it stands, and so is one write that the tail lost, or has at another place.
func TestKeptWritesOfMany(t *testing.T) {
	for place, want := range [][2]bool{{false, false}, {false, false}, {true, true}, {true, false}, {false, false}, {true, true}, {true, true}, {true, true}, {true, true}, {true, false}, {true, true}} {
		w := auditedWorld()
		w.History[place].At++
		wantAudit(t, fmt.Sprint("the entry at ", place, " at one write more"), w, true, want[0], want[1])
	}
	for sure := int64(1); sure <= 5; sure++ {
		w := auditedWorld()
		w.Nodes[2].Sure = sure
		w.Nodes[0].Clean, w.Nodes[1].Clean = 0, 0
		wantAudit(t, "less at the tail", w, true, sure >= 3, sure >= 4)
	}
	w := auditedWorld()
	w.Nodes[2].Writes[0], w.Nodes[2].Writes[1] = w.Nodes[2].Writes[1], w.Nodes[2].Writes[0]
	wantAudit(t, "two writes at each other's place", w, false, false, false)
	twice := append(auditedWorld().History, impl.Entry{Kind: 1, Session: 1, Seq: 1, Start: 1, End: 12, At: 2})
	wantAudit(t, "two entries of one write, one of them wrong", withHistory(auditedWorld(), twice), true, false, false)
}

// withHistory is w with these entries alone.
func withHistory(w impl.World, history []impl.Entry) impl.World {
	w = cloneWorld(w)
	w.History = cloneHistory(history)
	return w
}

// A read tells the Vec of its Id that the first At writes leave at the tail, and none where there is none, over or not.
func TestReadsThatTellTheTruth(t *testing.T) {
	for at := range int64(8) {
		for id := int64(0); id <= 9; id++ {
			for _, vec := range [][]int64{nil, {}, {0, 0, 0}, {1, 0, 0}, {2, 0, 0}, {3, 0, 0}, {4, 0, 0}, {1, 0}, {1, 0, 1}, {1, 0, 0, 0}} {
				for _, end := range []int64{0, 7} {
					w := withHistory(storyWorld(), []impl.Entry{{Kind: 2, Id: id, Start: 7, End: end, At: at, Vec: vec}})
					want := at <= 4 && slices.Equal(vec, vecBy(storyWrites()[:at], id))
					wantAudit(t, fmt.Sprint("a read of ", id, " at ", at, " that tells ", vec), w, true, true, want)
				}
			}
		}
	}
	for _, id := range []int64{0, -1, 1000, 1 << 32} {
		e := impl.Entry{Kind: 2, Id: id, Start: 7, End: 7, At: 4}
		wantAudit(t, "a read of an Id that none is", withHistory(storyWorld(), []impl.Entry{e}), true, true, true)
		e.Vec = []int64{3, 0, 0}
		wantAudit(t, "a read of an Id that none is, with a Vec", withHistory(storyWorld(), []impl.Entry{e}), true, true, false)
	}
}

// A vector of zeros is something, and nothing is not that.
func TestReadsOfZeros(t *testing.T) {
	w := grownWorld(1, []impl.Write{putOf(5, 1, 1, 0, 0, 0)})
	for _, x := range []struct {
		e    impl.Entry
		want bool
	}{
		{impl.Entry{Kind: 2, Id: 5, Start: 1, End: 1, At: 1, Vec: []int64{0, 0, 0}}, true},
		{impl.Entry{Kind: 2, Id: 5, Start: 1, End: 1, At: 1}, false},
		{impl.Entry{Kind: 2, Id: 5, Start: 1, End: 1}, true},
		{impl.Entry{Kind: 2, Id: 5, Start: 1, End: 1, Vec: []int64{0, 0, 0}}, false},
		{impl.Entry{Kind: 2, Id: 6, Start: 1, End: 1, At: 1, Vec: []int64{0, 0, 0}}, false},
	} {
		wantAudit(t, "a read of zeros", withHistory(w, []impl.Entry{x.e}), true, true, x.want)
	}
}

// A search tells the first K hits of what the first At writes leave at the tail, all of them and in their order, over or not; none is told where there is none, and of K 0.
func TestFindsThatTellTheTruth(t *testing.T) {
	query := []int64{3, 0, 1}
	for at := range int64(8) {
		for k := range int64(5) {
			all := hitsBy(storyWrites()[:min(4, at)], query, k)
			for _, hits := range [][]impl.Hit{nil, all, append(slices.Clone(all), impl.Hit{Id: 8, Score: 11}), all[:len(all)/2], hitsBy(storyWrites()[:1], query, k), hitsBy(storyWrites()[:5], query, k)} {
				for _, end := range []int64{0, 7} {
					w := withHistory(storyWorld(), []impl.Entry{{Kind: 3, Query: query, K: k, Start: 7, End: end, At: at, Hits: hits}})
					want := at <= 4 && slices.Equal(hits, all)
					wantAudit(t, fmt.Sprint("a search at ", at, ", k ", k, " that tells ", hits), w, true, true, want)
				}
			}
		}
	}
	for _, hits := range [][]impl.Hit{{{Id: 6, Score: 2}, {Id: 7, Score: 1}}, {{Id: 7, Score: 2}, {Id: 6, Score: 2}}, {{Id: 7, Score: 1}, {Id: 5, Score: 2}}} {
		w := withHistory(storyWorld(), []impl.Entry{{Kind: 3, Query: query, K: 2, Start: 7, End: 7, At: 4, Hits: hits}})
		wantAudit(t, "a search that tells other hits", w, true, true, false)
	}
	w := leasedAt(2, 1, 0, 0)
	w.Events = 1
	for i := range w.Nodes {
		w.Nodes[i].Writes, w.Nodes[i].Sure = fullWrites(40), 40
	}
	for k := range int64(21) {
		hits := hitsBy(fullWrites(40), query, k)
		wantAudit(t, "a search of many", withHistory(w, []impl.Entry{{Kind: 3, Query: query, K: k, Start: 1, At: 40, Hits: hits}}), true, true, true)
		wantAudit(t, "a search of many", withHistory(w, []impl.Entry{{Kind: 3, Query: query, K: k, Start: 1, At: 40, Hits: hits[:k/2]}}), true, true, k == 0)
	}
}

// A search of what may not be asked for tells nothing.
func TestFindsOfWrongQueries(t *testing.T) {
	hits := []impl.Hit{{Id: 6, Score: 2}}
	var list []impl.Entry
	for _, x := range wrongVecs() {
		list = append(list, impl.Entry{Kind: 3, Query: x.v, K: 1, Start: 7, End: 7, At: 3})
	}
	for _, k := range []int64{-1, 21, 1 << 32} {
		list = append(list, impl.Entry{Kind: 3, Query: []int64{3, 0, 1}, K: k, Start: 7, End: 7, At: 3})
	}
	for _, e := range list {
		wantAudit(t, "a search of a wrong query", withHistory(storyWorld(), []impl.Entry{e}), true, true, true)
		e.Hits = hits
		wantAudit(t, "a search of a wrong query, with hits", withHistory(storyWorld(), []impl.Entry{e}), true, true, false)
	}
}

// What the others have, and what is not sure at the tail, is not asked: a read of it is wrong, whoever has it.
func TestReadsOfWhatTheTailHasNot(t *testing.T) {
	w := storyWorld()
	for _, e := range []impl.Entry{
		{Kind: 2, Id: 5, Start: 9, End: 9, At: 5, Vec: []int64{4, 0, 0}},
		{Kind: 2, Id: 9, Start: 9, End: 9, At: 5},
		{Kind: 3, Query: []int64{0, 0, 0}, Start: 9, End: 9, At: 5},
		{Kind: 2, Id: 9, Start: 9, At: 40},
		{Kind: 3, Query: []int64{0, 0, 0}, Start: 9, At: 7},
	} {
		wantAudit(t, "an At above what is sure at the tail", withEntry(w, e), true, true, false)
	}
	w.Nodes[2].Sure = 5
	wantAudit(t, "an At that is sure at the tail", withHistory(w, []impl.Entry{{Kind: 2, Id: 5, Start: 9, End: 9, At: 5, Vec: []int64{4, 0, 0}}}), true, true, true)
	w.Nodes[2].Writes[4].Vec[0] = 9
	wantAudit(t, "a read of what the others have", withHistory(w, []impl.Entry{{Kind: 2, Id: 5, Start: 9, End: 9, At: 5, Vec: []int64{4, 0, 0}}}), false, true, false)
	wantAudit(t, "a read of what the tail has", withHistory(w, []impl.Entry{{Kind: 2, Id: 5, Start: 9, End: 9, At: 5, Vec: []int64{9, 0, 0}}}), false, true, true)
}

// entriesAt are entries at so many writes, from start to end, of each kind; what is no write tells what the tail has.
func entriesAt(w impl.World, at, start, end int64) []impl.Entry {
	list := []impl.Entry{
		saidOf(w, impl.Entry{Kind: 2, Id: 5, Start: start, End: end, At: at}),
		saidOf(w, impl.Entry{Kind: 2, Id: 9, Start: start, End: end, At: at}),
		saidOf(w, impl.Entry{Kind: 3, Query: []int64{0, 0, 0}, K: 2, Start: start, End: end, At: at}),
	}
	if at == 0 {
		return append(list, impl.Entry{Kind: 1, Session: 9, Seq: 9, Start: start, End: end})
	}
	x := storyWrites()[at-1]
	return append(list, impl.Entry{Kind: 1, Session: x.Session, Seq: x.Seq, Start: start, End: end, At: at})
}

// Of what was over ahead of the beginning of another the At is not above that of the other, and below it where that is a write; in one event nothing is ahead of another.
func TestEntriesInTheirOrder(t *testing.T) {
	w := storyWorld()
	right, wrong := 0, 0
	for early := range int64(5) {
		for late := range int64(5) {
			for _, start := range []int64{8, 9, 10, 11, 12, 40} {
				for _, former := range entriesAt(w, early, 8, 10) {
					for _, latter := range entriesAt(w, late, start, 40) {
						want := start <= 10 || early < late || early == late && latter.Kind != 1
						for _, history := range [][]impl.Entry{{former, latter}, {latter, former}, {former, {Kind: 2, Id: 9, Start: 1, At: 1}, latter}} {
							wantAudit(t, fmt.Sprint(early, " over at 10, and ", late, " begun at ", start), withHistory(w, history), true, true, want)
						}
						if want {
							right++
						} else {
							wrong++
						}
					}
				}
			}
		}
	}
	if right < 500 || wrong < 500 {
		t.Errorf("%d were right, %d wrong", right, wrong)
	}
}

// What is not over is ahead of nothing; but behind another one a read is asked by its At, and a write by where it is at the tail, whatever At it has, and not at all where it is not there.
func TestEntriesThatAreNotOver(t *testing.T) {
	w := storyWorld()
	for early := range int64(5) {
		for late := range int64(5) {
			for _, latter := range entriesAt(w, late, 11, 0) {
				for _, former := range entriesAt(w, early, 8, 0) {
					wantAudit(t, "two that are not over", withHistory(w, []impl.Entry{former, latter}), true, true, true)
				}
				for _, former := range entriesAt(w, early, 8, 10) {
					want := early < late || early == late && latter.Kind != 1
					if latter.Kind != 1 {
						wantAudit(t, "an answer that is not over", withHistory(w, []impl.Entry{former, latter}), true, true, want)
						continue
					}
					for _, at := range []int64{0, 1, 4, 40} {
						latter.At = at
						wantAudit(t, "a write that is not over", withHistory(w, []impl.Entry{latter, former}), true, true, want || late == 0)
					}
				}
			}
		}
	}
	for _, x := range storyWrites()[4:] {
		lost := impl.Entry{Kind: 1, Session: x.Session, Seq: x.Seq, Start: 38}
		wantAudit(t, "a write that is not at the tail", withEntry(auditedWorld(), lost), true, true, true)
		strange := impl.Entry{Kind: 1, Session: 10 * x.Session, Seq: -x.Seq, Start: 38}
		wantAudit(t, "a write that none is", withEntry(auditedWorld(), strange), true, true, true)
	}
}

// A write that is over with an At of 0, and is not at the tail, is behind nothing that was over ahead of it, not even behind another one like it.
func TestWritesThatAreOverNowhere(t *testing.T) {
	w := storyWorld()
	nowhere := impl.Entry{Kind: 1, Session: 9, Seq: 9, Start: 11, End: 12}
	wantAudit(t, "a write that is over nowhere", withHistory(w, []impl.Entry{nowhere}), true, true, true)
	for at := range int64(5) {
		for _, former := range entriesAt(w, at, 8, 10) {
			wantAudit(t, "a write that is over nowhere, behind others", withHistory(w, []impl.Entry{former, nowhere}), true, true, false)
		}
		for _, former := range entriesAt(w, at, 8, 11) {
			wantAudit(t, "a write that is over nowhere, beside others", withHistory(w, []impl.Entry{former, nowhere}), true, true, true)
		}
		for _, latter := range entriesAt(w, at, 13, 14) {
			wantAudit(t, "a write that is over nowhere, ahead of others", withHistory(w, []impl.Entry{nowhere, latter}), true, true, at > 0 || latter.Kind != 1)
		}
	}
}

// Each pair of many entries is asked, not just those that stand beside one another.
func TestLateEntriesAmongMany(t *testing.T) {
	w := auditedWorld()
	for len(w.History) < 58 {
		w.History = append(w.History, impl.Entry{Kind: 2, Id: 9, Start: 35, End: 35, At: 4})
	}
	first := impl.Entry{Kind: 2, Id: 9, Start: 36, End: 36, At: 4}
	for _, at := range []int64{0, 3, 4} {
		last := impl.Entry{Kind: 2, Id: 1, Start: 37, End: 37, At: at}
		for _, history := range [][]impl.Entry{
			slices.Concat([]impl.Entry{first}, w.History, []impl.Entry{last}),
			slices.Concat([]impl.Entry{last}, w.History, []impl.Entry{first}),
			slices.Concat(w.History[:30], []impl.Entry{last, first}, w.History[30:]),
		} {
			wantAudit(t, "60 entries", withHistory(w, history), true, true, at == 4)
		}
	}
}

// What a write's entry holds beside its numbers is not asked, nor of a read what a search holds, nor of a search what a read does.
func TestEntriesWithMoreThanTheirs(t *testing.T) {
	for place := range auditedWorld().History {
		w := auditedWorld()
		e := &w.History[place]
		if e.Kind != 2 {
			e.Vec, e.Id = []int64{7, 7}, 88
		}
		if e.Kind != 3 {
			e.Query, e.K, e.Hits = []int64{1}, 99, []impl.Hit{{Id: 0, Score: -1}}
		}
		if e.Kind != 1 {
			e.Session, e.Seq = 1, 1
		}
		wantAudit(t, "an entry with more than its own", w, true, true, true)
	}
}

// joinedAs: who joined has all that was at the tail, and is the tail.
func joinedAs(was, is impl.World) bool {
	n, whole := is.Nodes[lastId(is)-1], committedOf(was)
	count := int64(len(whole))
	return slices.Equal(is.Chain.Ids[:len(is.Chain.Ids)-1], was.Chain.Ids) && memberOf(is, n.Id) && n.Sure == count && n.Clean == count && slices.EqualFunc(n.Writes, whole, alike)
}

// wantFinishes: P15, each write is told to be over just if it is at the tail, and once.
func wantFinishes(t *testing.T, w impl.World) {
	t.Helper()
	for _, e := range w.History {
		if e.Kind != 1 {
			continue
		}
		index, got := impl.IndexIn(w, e.Session, e.Seq), impl.FinishWorld(w, e.Session, e.Seq)
		if (got.Code == impl.OK) != (index.Code == impl.OK && e.End == 0) {
			t.Fatalf("FinishWorld(%+v, %d, %d) = %+v", w, e.Session, e.Seq, got)
		}
		if got.Code == impl.OK {
			wantAudit(t, "a write that is over", got.World, true, true, true)
			wantInt(t, "OverIn behind a write that is over", impl.OverIn(got.World), impl.OverIn(w).Value+1)
			wantWorldCode(t, "FinishWorld again", impl.FinishWorld(got.World, e.Session, e.Seq), impl.ErrTaken)
		}
	}
}

// wantGrown: P16, what is at the tail stays there, and no write is there twice.
func wantGrown(t *testing.T, what string, was, is impl.World) {
	t.Helper()
	old, writes := committedOf(was), committedOf(is)
	if len(writes) < len(old) || !slices.EqualFunc(writes[:len(old)], old, alike) {
		t.Fatalf("%s: %+v became %+v at the tail", what, old, writes)
	}
	for at, x := range writes {
		if seenOf(writes, x.Session, x.Seq) != int64(at)+1 {
			t.Fatalf("%s: %+v is twice at the tail of %+v", what, x, is)
		}
		wantInt(t, "IndexIn", impl.IndexIn(is, x.Session, x.Seq), int64(at)+1)
	}
}

// reformed is w when a lease ran out, one was removed, and another one joined, as far as that may be. P14: who joined is the tail, with all that was there.
func reformed(t *testing.T, from *rand.Rand, w impl.World) impl.World {
	t.Helper()
	id, other := 1+from.Int63n(int64(len(w.Nodes))), 1+from.Int63n(int64(len(w.Nodes)))
	if late := impl.TickWorld(w, 5); late.Code == impl.OK {
		w = late.World
	}
	if removed := impl.RemoveWorld(w, id); removed.Code == impl.OK {
		w = removed.World
	}
	joined := impl.JoinWorld(w, other)
	if joined.Code != impl.OK {
		return w
	}
	if !joinedAs(w, joined.World) {
		t.Fatalf("JoinWorld: %+v became %+v", w, joined.World)
	}
	return joined.World
}

// P14, P15 and P16: a world that came of a new one by at most 90 steps of all kinds is one story at each of them.
func TestWorldsAreOneStory(t *testing.T) {
	from := rand.New(rand.NewSource(91))
	met := map[string]int{}
	for round := range int64(100) {
		w := impl.NewWorld(1 + round%5).World
		for w.Events <= 83 {
			did := someDeed(t, from, w)
			wantGrown(t, did.what, w, did.w)
			if did.code == impl.OK {
				met[did.what]++
			}
			if did.what == "JoinWorld" && did.code == impl.OK && !joinedAs(w, did.w) {
				t.Fatalf("JoinWorld: %+v became %+v", w, did.w)
			}
			wantAudit(t, did.what, did.w, true, true, true)
			switch pick := from.Intn(20); {
			case pick == 0:
				w = impl.DrainWorld(did.w).World
			case pick < 4:
				w = reformed(t, from, did.w)
			default:
				w = carried(from, did.w)
			}
			wantGrown(t, "what came next", did.w, w)
			wantAudit(t, "what came next", w, true, true, true)
		}
		wantAudited(t, "a world behind its steps", w)
		wantFinishes(t, w)
		met["over"] += int(impl.OverIn(w).Value)
	}
	for _, what := range []string{"AskWorld", "SendWorld", "AckWorld", "HearWorld", "SyncWorld", "CrashWorld", "StartWorld", "TickWorld", "BeatWorld", "RemoveWorld", "JoinWorld", "LoseWorld", "ReadWorld", "FindWorld", "FinishWorld", "over"} {
		if met[what] < 20 {
			t.Errorf("%s was met %d times", what, met[what])
		}
	}
}

// P16: what is drained is one story too; where all of the chain are members each write of the head is at the tail at its place, and may be told to be over.
func TestDrainedWorldsAreOneStory(t *testing.T) {
	whole := 0
	for _, w := range toldWorlds(t) {
		drained := impl.DrainWorld(w).World
		wantGrown(t, "DrainWorld", w, drained)
		wantAudit(t, "DrainWorld", drained, true, true, true)
		if slices.ContainsFunc(w.Chain.Ids, func(id int64) bool { return !memberOf(w, id) }) {
			continue
		}
		whole++
		for at, x := range w.Nodes[w.Chain.Ids[0]-1].Writes {
			wantInt(t, "IndexIn behind DrainWorld", impl.IndexIn(drained, x.Session, x.Seq), int64(at)+1)
		}
	}
	if whole < 100 {
		t.Errorf("%d were whole", whole)
	}
}

// Worlds in which one thing is not as it came of their steps are held against what should be told of them, those that no steps lead to as well.
func TestAuditsOfBentWorlds(t *testing.T) {
	from := rand.New(rand.NewSource(92))
	met := map[string]int{}
	for _, w := range slices.Concat(toldWorlds(t), bentWorlds(), []impl.World{auditedWorld(), longWorld(), fullWorld()}) {
		for range 3 {
			bent := bentStory(from, w)
			if impl.WorldFault(bent) != impl.OK {
				continue
			}
			wantAudited(t, "a bent world", bent)
			met[fmt.Sprint("chain ", shouldChain(bent))]++
			met[fmt.Sprint("kept ", shouldKept(bent))]++
			met[fmt.Sprint("linear ", shouldLinear(bent), shouldKept(bent))]++
		}
	}
	for _, what := range []string{"chain true", "chain false", "kept true", "kept false", "linear true true", "linear false true", "linear false false"} {
		if met[what] < 100 {
			t.Errorf("%s was met %d times", what, met[what])
		}
	}
	for range 3000 {
		wantAudited(t, "a bent world", bentStory(from, auditedWorld()))
	}
}

// P1: what is asked again is answered again.
func TestAuditsAnswerAgain(t *testing.T) {
	w := auditedWorld()
	for range 3 {
		wantAudited(t, "a world that was audited", w)
		w.History[2].Vec[0] = 9
		wantAudit(t, "a world that was bent", w, true, true, false)
		w.History[2].Vec[0] = 1
	}
}
