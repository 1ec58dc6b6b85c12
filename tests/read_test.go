package tests

import (
	"math/rand"
	"slices"
	"testing"

	"loop.example/g00357/impl"
)

// storyWrites put 5, 6 and 7, drop 5, put it again, put 6 elsewhere, and put 8.
func storyWrites() []impl.Write {
	return []impl.Write{
		putOf(5, 1, 1, 1, 0, 0), putOf(6, 2, 1, 2, 0, 0), putOf(7, 1, 2, 3, 0, 0), dropOf(5, 1, 3),
		putOf(5, 2, 2, 4, 0, 0), putOf(6, 1, 4, 5, 0, 0), putOf(8, 3, 1, 6, 0, 0),
	}
}

// storyWorld has three in a chain: the head has all 7 writes, and knows of 2 that they are at the tail; the middle one has 6, knows of 3; the tail has 5, of which 4 are sure.
func storyWorld() impl.World {
	writes := storyWrites()
	w := impl.World{Now: 20, Events: 40, Chain: chainOf(3, 1, 2, 3), Nodes: []impl.Node{
		{Id: 1, Up: true, Epoch: 3, Lease: 24, Writes: writes, Sure: 7, Clean: 2},
		{Id: 2, Up: true, Epoch: 3, Lease: 20, Writes: writes[:6], Sure: 6, Clean: 3},
		{Id: 3, Up: true, Epoch: 3, Lease: 23, Writes: writes[:5], Sure: 4, Clean: 1},
		{Id: 4, Up: true, Epoch: 2, Lease: 99, Writes: writes, Sure: 7, Clean: 7},
		{Id: 5},
	}}
	for i, x := range writes {
		w.History = append(w.History, impl.Entry{Kind: 1, Session: x.Session, Seq: x.Seq, Id: x.Id, Start: int64(i) + 1})
	}
	return cloneWorld(w)
}

// wantRead is an answer of all, written out: at how many writes, and what was there.
func wantRead(t *testing.T, w impl.World, node, id, at int64, vec ...int64) {
	t.Helper()
	next := eventOf(w)
	next.History = append(next.History, impl.Entry{Kind: 2, Id: id, Start: next.Events, End: next.Events, At: at, Vec: vec})
	wantAnswer(t, "ReadWorld", impl.ReadWorld(w, node, id), impl.AnswerResult{At: at, Vec: vec, World: next})
}

func wantFound(t *testing.T, w impl.World, node int64, query []int64, k, at int64, hits ...impl.Hit) {
	t.Helper()
	next := eventOf(w)
	next.History = append(next.History, impl.Entry{Kind: 3, Query: slices.Clone(query), K: k, Start: next.Events, End: next.Events, At: at, Hits: hits})
	wantAnswer(t, "FindWorld", impl.FindWorld(w, node, query, k), impl.AnswerResult{At: at, Hits: hits, World: next})
}

func downIn(w impl.World, id int64) impl.World {
	n := nodeIn(w, id)
	return withNode(w, crashedOf(n, int64(len(n.Writes))))
}

// Each of three tells what is at the tail, whatever it has beyond that; all that is told is written out.
func TestReadsOfExamples(t *testing.T) {
	w := storyWorld()
	for node := int64(1); node <= 3; node++ {
		wantRead(t, w, node, 5, 4)
		wantRead(t, w, node, 6, 4, 2, 0, 0)
		wantRead(t, w, node, 7, 4, 3, 0, 0)
		wantRead(t, w, node, 8, 4)
		wantRead(t, w, node, 1, 4)
		wantRead(t, w, node, 999, 4)
		wantFound(t, w, node, []int64{0, 0, 0}, 1, 4, impl.Hit{Id: 6, Score: 4})
		wantFound(t, w, node, []int64{3, 0, 1}, 9, 4, impl.Hit{Id: 7, Score: 1}, impl.Hit{Id: 6, Score: 2})
		wantFound(t, w, node, []int64{3, 0, 1}, 0, 4)
	}
	if got := impl.StateIn(w); got.Code != impl.OK || !alikeItems(got.Items, []impl.Item{itemOf(6, 2, 0, 0), itemOf(7, 3, 0, 0)}) {
		t.Errorf("StateIn = %+v", got)
	}
	for node, want := range []int64{impl.ErrNone, 0, 0, 0, impl.ErrDown, impl.ErrDown, impl.ErrNone} {
		if code := impl.MayAnswer(w, int64(node)); code != want {
			t.Errorf("MayAnswer(%d) = %d, want %d", node, code, want)
		}
	}
}

// A write at the head of three is not there yet, wherever it is asked for: the tail has it not.
func TestReadsOfWhatIsNotAtTheTail(t *testing.T) {
	w := grownWorld(3, []impl.Write{putOf(5, 1, 1, 5, 0, 0)})
	for index := int64(1); index <= 3; index++ {
		for node := int64(1); node <= 3; node++ {
			wantRead(t, w, node, 5, 0)
			wantFound(t, w, node, []int64{0, 0, 0}, 20, 0)
			wantWorldCode(t, "FinishWorld", impl.FinishWorld(w, 1, 1), impl.ErrState)
		}
		if index < 3 {
			w = impl.SendWorld(w, index, 1).World
			w = impl.HearWorld(w, index-1).World
		}
		if index == 1 {
			w = impl.SyncWorld(w, 2).World
		}
	}
	w = impl.SyncWorld(w, 3).World
	for node := int64(1); node <= 3; node++ {
		wantRead(t, w, node, 5, 1, 5, 0, 0)
		wantFound(t, w, node, []int64{0, 0, 0}, 20, 1, impl.Hit{Id: 5, Score: 25})
	}
	want := eventOf(w)
	want.History[0].End, want.History[0].At = want.Events, 1
	wantMoved(t, "FinishWorld", impl.FinishWorld(w, 1, 1), want)
}

// With the tail down, what is clean is told, and what is dirty is not; behind its removal the next tail tells all that it has.
func TestReadsWithTheTailDown(t *testing.T) {
	w := downIn(storyWorld(), 3)
	for node := int64(1); node <= 2; node++ {
		for id, clean := range map[int64][]int64{5: nil, 6: nil, 7: {3, 0, 0}, 8: nil, 1: nil} {
			if id == 5 || id == 6 || id == 8 && node == 1 || id == 7 && node == 1 {
				wantAnswerCode(t, "ReadWorld of what is dirty, the tail down", impl.ReadWorld(w, node, id), impl.ErrState)
			} else {
				wantRead(t, w, node, id, 5, clean...)
			}
		}
		for _, k := range []int64{0, 1, 20} {
			wantAnswerCode(t, "FindWorld where something is dirty, the tail down", impl.FindWorld(w, node, []int64{0, 0, 0}, k), impl.ErrState)
		}
	}
	wantAnswerCode(t, "ReadWorld of a tail that is down", impl.ReadWorld(w, 3, 7), impl.ErrDown)
	w = impl.RemoveWorld(w, 3).World
	for node := int64(1); node <= 2; node++ {
		wantRead(t, w, node, 5, 6, 4, 0, 0)
		wantRead(t, w, node, 6, 6, 5, 0, 0)
		wantRead(t, w, node, 7, 6, 3, 0, 0)
		wantRead(t, w, node, 8, 6)
		wantFound(t, w, node, []int64{0, 0, 0}, 1, 6, impl.Hit{Id: 7, Score: 9})
	}
}

// A tail that is down tells how many writes were sure there, also to one that knows all that it has to be there.
func TestFindsOfWhatIsCleanWithTheTailDown(t *testing.T) {
	w := storyWorld()
	for clean := range int64(7) {
		n := nodeIn(w, 2)
		n.Clean = clean
		down := downIn(withNode(w, n), 3)
		if clean < 6 {
			wantAnswerCode(t, "FindWorld where something is dirty", impl.FindWorld(down, 2, []int64{0, 0, 0}, 3), impl.ErrState)
		} else {
			wantFound(t, down, 2, []int64{0, 0, 0}, 3, 5, impl.Hit{Id: 7, Score: 9}, impl.Hit{Id: 5, Score: 16}, impl.Hit{Id: 6, Score: 25})
		}
	}
}

// A tail that was down and is started is asked again at once, but answers itself just behind a beat.
func TestReadsBehindAStart(t *testing.T) {
	w := downIn(storyWorld(), 3)
	wantAnswerCode(t, "ReadWorld, the tail down", impl.ReadWorld(w, 2, 6), impl.ErrState)
	w = impl.StartWorld(w, 3).World
	wantRead(t, w, 2, 6, 5, 2, 0, 0)
	wantRead(t, w, 2, 5, 5, 4, 0, 0)
	wantAnswerCode(t, "ReadWorld of a tail behind its start", impl.ReadWorld(w, 3, 6), impl.ErrLease)
	wantRead(t, impl.BeatWorld(w, 3).World, 3, 5, 5, 4, 0, 0)
}

// A member that has fewer writes than are sure at the tail tells nothing, clean or dirty; one that has as many, or more, does.
func TestReadsOfOneThatIsBehind(t *testing.T) {
	writes := storyWrites()
	for sure := range int64(8) {
		for count := range int64(8) {
			for clean := range count + 1 {
				w := storyWorld()
				w.Nodes[2].Writes, w.Nodes[2].Sure, w.Nodes[2].Clean = writes, sure, sure/2
				w.Nodes[1].Writes, w.Nodes[1].Sure, w.Nodes[1].Clean = writes[:count], count, clean
				for id := int64(4); id <= 8; id++ {
					got := impl.ReadWorld(w, 2, id)
					wantAnswer(t, "ReadWorld", got, shouldRead(w, 2, id))
					if count < sure && got.Code != impl.ErrState || count >= sure && got.Code != impl.OK {
						t.Fatalf("ReadWorld of one that has %d, the tail sure of %d: %+v", count, sure, got)
					}
				}
				wantAnswer(t, "FindWorld", impl.FindWorld(w, 2, []int64{1, 1, 1}, 3), shouldFind(w, 2, []int64{1, 1, 1}, 3))
			}
		}
	}
}

// What is clean is told of all first Clean writes, even where the tail is not sure of so many; what is dirty of so many as it is sure of.
func TestCleanAndDirtyReads(t *testing.T) {
	w := storyWorld()
	w.Nodes[2].Sure, w.Nodes[2].Clean = 1, 0
	wantRead(t, w, 2, 7, 1, 3, 0, 0)
	wantRead(t, w, 2, 6, 1)
	wantRead(t, w, 2, 5, 1, 1, 0, 0)
	wantRead(t, w, 1, 7, 1)
	n := nodeIn(w, 2)
	n.Clean = 6
	clean := withNode(w, n)
	wantRead(t, clean, 2, 5, 1, 4, 0, 0)
	wantFound(t, clean, 2, []int64{4, 0, 0}, 1, 1, impl.Hit{Id: 5, Score: 0})
	wantFound(t, w, 2, []int64{4, 0, 0}, 1, 1, impl.Hit{Id: 5, Score: 9})
}

// What is dirty is answered from writes of the node's own, not from those of the tail, where they are not the same.
func TestReadsOfOwnWrites(t *testing.T) {
	w := storyWorld()
	w.Nodes[2].Writes = []impl.Write{putOf(5, 4, 1, 9, 9, 9), putOf(7, 4, 2, 8, 8, 8)}
	w.Nodes[2].Sure, w.Nodes[2].Clean = 2, 0
	wantRead(t, w, 2, 5, 2, 1, 0, 0)
	wantRead(t, w, 2, 6, 2, 2, 0, 0)
	wantRead(t, w, 3, 5, 2, 9, 9, 9)
	wantRead(t, w, 3, 6, 2)
	wantFound(t, w, 2, []int64{0, 0, 0}, 1, 2, impl.Hit{Id: 5, Score: 1})
	wantFound(t, w, 3, []int64{0, 0, 0}, 1, 2, impl.Hit{Id: 7, Score: 192})
}

// A tail answers by what is sure there alone, whatever it knows to be clean, and however much it has beyond that.
func TestReadsOfTheTail(t *testing.T) {
	writes := fullWrites(12)
	for n := int64(1); n <= 5; n++ {
		for count := range int64(13) {
			for _, sure := range edgesOf(count) {
				w := leasedAt(n, 4, 9, 9)
				for i := range w.Nodes {
					w.Nodes[i].Writes, w.Nodes[i].Sure = writes, 12
				}
				w.Nodes[n-1].Writes, w.Nodes[n-1].Sure, w.Nodes[n-1].Clean = writes[:count], sure, sure/2
				for id := int64(1); id <= 13; id++ {
					if id <= sure {
						wantRead(t, w, n, id, sure, writes[id-1].Vec...)
					} else {
						wantRead(t, w, n, id, sure)
					}
				}
				wantAnswer(t, "FindWorld", impl.FindWorld(w, n, []int64{3, 3, 3}, 20), shouldFind(w, n, []int64{3, 3, 3}, 20))
			}
		}
	}
}

// The only one of a chain is the tail: what is not sure there is not told, and what is, is.
func TestReadsOfTheOnlyOne(t *testing.T) {
	w := impl.NewWorld(1).World
	wantRead(t, w, 1, 5, 0)
	wantFound(t, w, 1, []int64{5, 5, 5}, 20, 0)
	w = impl.AskWorld(w, putOf(5, 1, 1, 5, 0, 0)).World
	wantRead(t, w, 1, 5, 0)
	wantWorldCode(t, "FinishWorld of what is not sure", impl.FinishWorld(w, 1, 1), impl.ErrState)
	w = impl.SyncWorld(w, 1).World
	wantRead(t, w, 1, 5, 1, 5, 0, 0)
	wantFound(t, w, 1, []int64{5, 5, 5}, 20, 1, impl.Hit{Id: 5, Score: 50})
	w = impl.SyncWorld(impl.AskWorld(w, dropOf(5, 1, 2)).World, 1).World
	wantRead(t, w, 1, 5, 2)
	down := impl.CrashWorld(w, 1, 0).World
	wantAnswerCode(t, "ReadWorld of the only one, that is down", impl.ReadWorld(down, 1, 5), impl.ErrDown)
	wantMoved(t, "FinishWorld, the only one down", impl.FinishWorld(down, 1, 1), shouldFinish(down, 1, 1).World)
}

// One answers up to the last moment of its lease, and not at the next one; the leases of the others are not asked.
func TestLeasesOfReads(t *testing.T) {
	for _, now := range []int64{0, 1, 5, 77, 8999, 9000} {
		for _, lease := range []int64{0, now - 2, now - 1, now, now + 1, 9999} {
			for node := int64(1); node <= 3 && lease >= 0; node++ {
				for _, others := range []int64{0, 9999} {
					w := leasedAt(3, 4, now, others)
					w.Nodes[node-1].Lease = lease
					if lease >= now {
						wantRead(t, w, node, 5, 0)
						wantFound(t, w, node, []int64{1, 2, 3}, 2, 0)
					} else {
						wantAnswerCode(t, "ReadWorld behind a lease", impl.ReadWorld(w, node, 5), impl.ErrLease)
						wantAnswerCode(t, "FindWorld behind a lease", impl.FindWorld(w, node, []int64{1, 2, 3}, 2), impl.ErrLease)
					}
					if code := impl.MayAnswer(w, node); code != shouldMay(w, node) {
						t.Fatalf("MayAnswer at %d of a lease up to %d: %d", now, lease, code)
					}
				}
			}
		}
	}
}

// Behind a beat one answers for 4, in one tick or in several, and at 5 not before another beat.
func TestLeasesOfReadsRunOut(t *testing.T) {
	w := impl.BeatWorld(impl.TickWorld(impl.NewWorld(2).World, 9).World, 1).World
	for range 5 {
		wantRead(t, w, 1, 5, 0)
		wantAnswerCode(t, "ReadWorld of one without a lease", impl.ReadWorld(w, 2, 5), impl.ErrLease)
		w = impl.TickWorld(w, 1).World
	}
	wantAnswerCode(t, "ReadWorld behind a lease", impl.ReadWorld(w, 1, 5), impl.ErrLease)
	wantRead(t, impl.BeatWorld(w, 1).World, 1, 5, 0)
}

// Of a k of 0 nothing is told, but it is noted; of 20 there are 20, where there are so many, and of equally near ones the lower Ids first.
func TestFindsOfEquallyNearOnes(t *testing.T) {
	var writes []impl.Write
	for i := range int64(40) {
		writes = append(writes, putOf(900-7*i, 1, 1+i, i%2, 0, 0))
	}
	for count := range int64(41) {
		w := leasedAt(2, 1, 0, 0)
		for i := range w.Nodes {
			w.Nodes[i].Writes, w.Nodes[i].Sure, w.Nodes[i].Clean = writes, 40, count/2
		}
		w.Nodes[1].Sure, w.Nodes[1].Clean = count, 0
		for _, k := range []int64{0, 1, 2, 19, 20} {
			for node := int64(1); node <= 2; node++ {
				got := impl.FindWorld(w, node, []int64{0, 0, 0}, k)
				wantAnswer(t, "FindWorld", got, shouldFind(w, node, []int64{0, 0, 0}, k))
				if int64(len(got.Hits)) != min(k, count, 30) {
					t.Fatalf("FindWorld, k %d, of %d: %v", k, count, got.Hits)
				}
			}
		}
	}
	three := leasedAt(1, 1, 0, 0)
	three.Nodes[0].Writes, three.Nodes[0].Sure = []impl.Write{putOf(9, 1, 1, 1, 0, 0), putOf(3, 1, 2, 0, 1, 0), putOf(5, 1, 3, 0, 0, -1), putOf(1, 1, 4, 7, 0, 0)}, 4
	wantFound(t, three, 1, []int64{0, 0, 0}, 2, 4, impl.Hit{Id: 3, Score: 1}, impl.Hit{Id: 5, Score: 1})
	wantFound(t, three, 1, []int64{0, 0, 0}, 20, 4, impl.Hit{Id: 3, Score: 1}, impl.Hit{Id: 5, Score: 1}, impl.Hit{Id: 9, Score: 1}, impl.Hit{Id: 1, Score: 49})
}

// A put that finds no room at the tail is not told by anyone; and a zero vector is told as one.
func TestReadsOfFullTables(t *testing.T) {
	var writes []impl.Write
	for i := range int64(32) {
		writes = append(writes, putOf(1+i, 1, 1+i, 0, 0, 0))
	}
	w := leasedAt(2, 1, 0, 0)
	for i := range w.Nodes {
		w.Nodes[i].Writes, w.Nodes[i].Sure, w.Nodes[i].Clean = append(slices.Clone(writes), dropOf(1, 1, 33), putOf(40, 1, 34, 1, 1, 1)), 34, 30
	}
	for node := int64(1); node <= 2; node++ {
		wantRead(t, w, node, 30, 34, 0, 0, 0)
		wantRead(t, w, node, 31, 34)
		wantRead(t, w, node, 1, 34)
		wantRead(t, w, node, 40, 34, 1, 1, 1)
	}
}

// FinishWorld tells of each write where it is at the tail, in whatever order it is asked, each once.
func TestFinishesOfExamples(t *testing.T) {
	for _, order := range [][]int{{0, 1, 2, 3}, {3, 2, 1, 0}, {2, 0, 3, 1}} {
		w := storyWorld()
		for _, place := range order {
			x := storyWrites()[place]
			want := eventOf(w)
			want.History[place].End, want.History[place].At = want.Events, int64(place)+1
			got := impl.FinishWorld(w, x.Session, x.Seq)
			wantMoved(t, "FinishWorld", got, want)
			wantWorldCode(t, "FinishWorld again", impl.FinishWorld(got.World, x.Session, x.Seq), impl.ErrTaken)
			w = got.World
		}
		for _, x := range storyWrites()[4:] {
			wantWorldCode(t, "FinishWorld of what is not at the tail", impl.FinishWorld(w, x.Session, x.Seq), impl.ErrState)
		}
		w = impl.SyncWorld(w, 3).World
		wantMoved(t, "FinishWorld of what is sure now", impl.FinishWorld(w, 2, 2), shouldFinish(w, 2, 2).World)
		wantWorldCode(t, "FinishWorld of what the tail has not", impl.FinishWorld(w, 1, 4), impl.ErrState)
	}
}

// Of two entries of one write the first one is asked; entries of reads have no session, whatever they say.
func TestFinishesOfTheFirstEntry(t *testing.T) {
	w := storyWorld()
	w.History = []impl.Entry{{Kind: 2, Session: 1, Seq: 1, Start: 1}, {Kind: 3, Session: 1, Seq: 1, Start: 1, End: 1}, {Kind: 1, Session: 1, Seq: 1, Id: 5, Start: 2, At: 40}, {Kind: 1, Session: 1, Seq: 1, Id: 5, Start: 2}}
	want := eventOf(w)
	want.History[2].End, want.History[2].At = 41, 1
	got := impl.FinishWorld(w, 1, 1)
	wantMoved(t, "FinishWorld", got, want)
	wantWorldCode(t, "FinishWorld again", impl.FinishWorld(got.World, 1, 1), impl.ErrTaken)
	w.History = w.History[:2]
	wantWorldCode(t, "FinishWorld where only reads have its number", impl.FinishWorld(w, 1, 1), impl.ErrNone)
}

// P13: a write that was told to be over is asked again, and is where it was: nothing but an event comes of it, and it is over as before.
func TestAskedAgainWhenOver(t *testing.T) {
	put := putOf(5, 1, 1, 5, 0, 0)
	w := passedOn(grownWorld(2, []impl.Write{put, dropOf(6, 1, 2)}), 1, 1)
	w = impl.FinishWorld(w, 1, 1).World
	for _, x := range otherOfTicket(put) {
		got := impl.AskWorld(w, x)
		wantMoved(t, "AskWorld of what is over", got, eventOf(w))
		wantWorldCode(t, "FinishWorld of what is over", impl.FinishWorld(got.World, 1, 1), impl.ErrTaken)
		wantRead(t, got.World, 2, 5, 1, 5, 0, 0)
		w = got.World
	}
	w = impl.RemoveWorld(impl.CrashWorld(w, 1, 0).World, 1).World
	wantMoved(t, "AskWorld of what is over, at another head", impl.AskWorld(w, put), eventOf(w))
}

// Events go up to 9999 and entries up to 60: one below there is one more, and at it none; a write needs no entry to be over.
func TestEventsAndEntriesOfReadsEnd(t *testing.T) {
	query := []int64{0, 0, 0}
	w := storyWorld()
	w.Events = 9998
	for _, last := range []impl.World{impl.ReadWorld(w, 1, 6).World, impl.FindWorld(w, 2, query, 3).World, impl.FinishWorld(w, 1, 1).World} {
		if last.Events != 9999 || impl.WorldFault(last) != impl.OK {
			t.Fatalf("the last event: %+v", last)
		}
		wantAnswerCode(t, "ReadWorld behind the last event", impl.ReadWorld(last, 1, 6), impl.ErrMany)
		wantAnswerCode(t, "FindWorld behind the last event", impl.FindWorld(last, 1, query, 3), impl.ErrMany)
		wantWorldCode(t, "FinishWorld behind the last event", impl.FinishWorld(last, 2, 1), impl.ErrMany)
		if code := impl.MayAnswer(last, 1); code != impl.OK || len(impl.StateIn(last).Items) != 2 {
			t.Errorf("MayAnswer behind the last event: %d", code)
		}
	}
	wantRead(t, w, 1, 6, 4, 2, 0, 0)
	w = storyWorld()
	for len(w.History) < 59 {
		w.History = append(w.History, impl.Entry{Kind: 2, Start: 1, End: 1})
	}
	for _, last := range []impl.World{impl.ReadWorld(w, 1, 6).World, impl.FindWorld(w, 2, query, 3).World} {
		if len(last.History) != 60 || impl.WorldFault(last) != impl.OK {
			t.Fatalf("the last entry: %+v", last)
		}
		wantAnswerCode(t, "ReadWorld behind the last entry", impl.ReadWorld(last, 1, 6), impl.ErrMany)
		wantAnswerCode(t, "FindWorld behind the last entry", impl.FindWorld(last, 1, query, 3), impl.ErrMany)
		wantMoved(t, "FinishWorld behind the last entry", impl.FinishWorld(last, 1, 1), shouldFinish(last, 1, 1).World)
	}
	wantRead(t, w, 1, 6, 4, 2, 0, 0)
	wantFound(t, w, 1, query, 1, 4, impl.Hit{Id: 6, Score: 4})
}

// P14: one that was removed tells nothing, though it is Up, has what it had, and was told of nothing; not even behind a crash and a start, but when it has joined.
func TestReadsOfOneThatWasRemoved(t *testing.T) {
	query := []int64{0, 0, 0}
	for node := int64(1); node <= 3; node++ {
		w := storyWorld()
		for i := range w.Nodes[:3] {
			w.Nodes[i].Lease = 24
		}
		wantWorldCode(t, "RemoveWorld of one that may answer", impl.RemoveWorld(w, node), impl.ErrLease)
		w = impl.TickWorld(w, 5).World
		wantAnswerCode(t, "ReadWorld behind a lease", impl.ReadWorld(w, node, 6), impl.ErrLease)
		was := w.Nodes[node-1]
		w = impl.RemoveWorld(w, node).World
		if !alikeNode(w.Nodes[node-1], was) {
			t.Errorf("%+v was told of its removal", was)
		}
		for _, gone := range []impl.World{w, impl.StartWorld(impl.CrashWorld(w, node, 0).World, node).World, impl.SyncWorld(w, node).World} {
			if code := impl.MayAnswer(gone, node); code != impl.ErrDown {
				t.Errorf("MayAnswer of one that was removed: %d", code)
			}
			for id := int64(4); id <= 8; id++ {
				wantAnswerCode(t, "ReadWorld of one that was removed", impl.ReadWorld(gone, node, id), impl.ErrDown)
			}
			wantAnswerCode(t, "FindWorld of one that was removed", impl.FindWorld(gone, node, query, 2), impl.ErrDown)
		}
		w = impl.JoinWorld(w, node).World
		wantAnswerCode(t, "ReadWorld of one that joined", impl.ReadWorld(w, node, 7), impl.ErrLease)
		w = impl.BeatWorld(w, node).World
		wantRead(t, w, node, 7, impl.CommittedIn(w).Value, 3, 0, 0)
	}
}

// P14: one that is out of the chain tells nothing, whatever Epoch it knows and however long its lease.
func TestReadsOfOneOutOfTheChain(t *testing.T) {
	w := storyWorld()
	for epoch := range int64(4) {
		for _, lease := range []int64{0, 20, 9999} {
			w.Nodes[3].Epoch, w.Nodes[3].Lease = epoch, lease
			wantAnswerCode(t, "ReadWorld of one out of the chain", impl.ReadWorld(w, 4, 6), impl.ErrDown)
			wantAnswerCode(t, "FindWorld of one out of the chain", impl.FindWorld(w, 4, []int64{1, 1, 1}, 1), impl.ErrDown)
			if code := impl.MayAnswer(w, 4); code != impl.ErrDown {
				t.Errorf("MayAnswer of one out of the chain: %d", code)
			}
		}
	}
}

// P15: whoever may answer tells what the tail would tell at that time, in worlds that come of at most 90 steps.
func TestWhoeverAnswersTellsTheTail(t *testing.T) {
	met := map[string]int{}
	from := rand.New(rand.NewSource(73))
	for _, w := range toldWorlds(t) {
		if w.Events > 90 {
			t.Fatalf("%d steps", w.Events)
		}
		w.History = nil
		sure, last := committedOf(w), lastId(w)
		for node := int64(1); node <= int64(len(w.Nodes)); node++ {
			if impl.MayAnswer(w, node) != impl.OK {
				met["may not"]++
				continue
			}
			query := someQuery(from)
			for id := int64(1); id <= 10; id++ {
				got := impl.ReadWorld(w, node, id)
				if got.Code == impl.ErrState && !memberOf(w, last) && dirtyIn(w.Nodes[node-1], id) {
					met["no tail"]++
					continue
				}
				if got.Code != impl.OK || got.At != int64(len(sure)) || !slices.Equal(got.Vec, vecBy(sure, id)) {
					t.Fatalf("ReadWorld(%+v, %d, %d) = %+v", w, node, id, got)
				}
				met[saidBy(w, node, dirtyIn(w.Nodes[node-1], id))]++
			}
			got := impl.FindWorld(w, node, query, 3)
			isDirty := int64(len(w.Nodes[node-1].Writes)) > w.Nodes[node-1].Clean
			if got.Code == impl.ErrState && !memberOf(w, last) && isDirty {
				continue
			}
			if got.Code != impl.OK || got.At != int64(len(sure)) || !slices.Equal(got.Hits, hitsBy(sure, query, 3)) {
				t.Fatalf("FindWorld(%+v, %d, %v, 3) = %+v", w, node, query, got)
			}
		}
	}
	for _, what := range []string{"may not", "no tail", "tail", "dirty", "clean"} {
		if met[what] < 20 {
			t.Errorf("%s was met %d times", what, met[what])
		}
	}
}

// saidBy is how one answers: as the tail, or of what it knows to be clean or not.
func saidBy(w impl.World, node int64, dirty bool) string {
	if node == lastId(w) {
		return "tail"
	}
	if dirty {
		return "dirty"
	}
	return "clean"
}

// P15: a write is told to be over just if it is at the tail, and once.
func TestOverJustAtTheTail(t *testing.T) {
	over, notYet := 0, 0
	for _, w := range append(toldWorlds(t), ledWorlds()...) {
		if w.Events > 9990 {
			continue
		}
		for _, e := range w.History {
			if e.Kind != 1 {
				continue
			}
			got := impl.FinishWorld(w, e.Session, e.Seq)
			wantStep(t, "FinishWorld", got, shouldFinish(w, e.Session, e.Seq))
			isThere := seenOf(committedOf(w), e.Session, e.Seq) > 0
			if (got.Code == impl.OK) != (isThere && e.End == 0) {
				t.Fatalf("FinishWorld(%+v, %d, %d) = %+v", w, e.Session, e.Seq, got)
			}
			if got.Code != impl.OK {
				notYet++
				continue
			}
			over++
			wantWorldCode(t, "FinishWorld again", impl.FinishWorld(got.World, e.Session, e.Seq), impl.ErrTaken)
		}
	}
	if over < 100 || notYet < 100 {
		t.Errorf("%d were told to be over, and %d not", over, notYet)
	}
}

// P15 and P16: what was told to be over stays at the tail, at its place, and no write is there twice, whatever comes next.
func TestWhatIsOverStaysOnceAtTheTail(t *testing.T) {
	from := rand.New(rand.NewSource(74))
	over := 0
	for round := range int64(60) {
		w := impl.NewWorld(1 + round%5).World
		for w.Events <= 83 {
			w = carried(from, someDeed(t, from, w).w)
			for at, x := range committedOf(w) {
				if seenOf(committedOf(w), x.Session, x.Seq) != int64(at)+1 {
					t.Fatalf("%+v is twice at the tail of %+v", x, w)
				}
			}
			for _, e := range w.History {
				if e.Kind == 1 && e.End > 0 {
					over++
					if at := seenOf(committedOf(w), e.Session, e.Seq); at == 0 || at != e.At {
						t.Fatalf("%+v is at %d of %+v", e, at, w)
					}
				}
			}
		}
	}
	if over < 1000 {
		t.Errorf("%d times one was over", over)
	}
}

// Each answer is held against what it should be, in worlds that come of many steps and in such as no steps lead to.
func TestAnswersOfManyWorlds(t *testing.T) {
	met := map[string]int{}
	from := rand.New(rand.NewSource(75))
	for _, w := range slices.Concat(bentWorlds(), toldWorlds(t)) {
		if got, want := impl.StateIn(w), itemsBy(committedOf(w)); got.Code != impl.OK || !alikeItems(got.Items, want) {
			t.Fatalf("StateIn(%+v) = %+v, want %+v", w, got, want)
		}
		if len(w.History) > 58 {
			w.History = w.History[:58]
		}
		for node := int64(0); node <= int64(len(w.Nodes))+1; node++ {
			if code := impl.MayAnswer(w, node); code != shouldMay(w, node) {
				t.Fatalf("MayAnswer(%+v, %d) = %d", w, node, code)
			}
		}
		for range 6 {
			what, got, want := someAnswer(from, w)
			wantAnswer(t, what, got, want)
			met[what+string(rune('0'+got.Code))]++
			what, done, should := someFinish(from, w)
			wantStep(t, what, done, should)
			met[what+string(rune('0'+done.Code))]++
		}
	}
	for _, what := range []string{"ReadWorld0", "ReadWorld3", "ReadWorld4", "ReadWorld8", "ReadWorld9", "ReadWorld:", "FindWorld0", "FindWorld3", "FindWorld4", "FindWorld8", "FindWorld9", "FindWorld:", "FinishWorld0", "FinishWorld4", "FinishWorld6", "FinishWorld8"} {
		if met[what] < 3 {
			t.Errorf("%s was met %d times", what, met[what])
		}
	}
}

// P1: what is asked again is answered again, and an answer is told once in its entry.
func TestReadsAnswerAgain(t *testing.T) {
	w := storyWorld()
	for range 3 {
		wantAnswer(t, "ReadWorld", impl.ReadWorld(w, 2, 6), shouldRead(w, 2, 6))
		wantAnswer(t, "FindWorld", impl.FindWorld(w, 1, []int64{1, 1, 1}, 2), shouldFind(w, 1, []int64{1, 1, 1}, 2))
		wantStep(t, "FinishWorld", impl.FinishWorld(w, 2, 1), shouldFinish(w, 2, 1))
		if code := impl.MayAnswer(w, 2); code != impl.OK || !alikeItems(impl.StateIn(w).Items, itemsBy(committedOf(w))) {
			t.Errorf("MayAnswer = %d, StateIn = %+v", code, impl.StateIn(w))
		}
	}
}
