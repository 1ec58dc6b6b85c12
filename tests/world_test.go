package tests

import (
	"math/rand"
	"slices"
	"testing"

	"loop.example/g00357/impl"
)

// grownWorld is a new world of n, whose head was asked for the first of all writes, and has them sure.
func grownWorld(n int64, writes []impl.Write) impl.World {
	w := impl.NewWorld(n).World
	for _, x := range writes {
		w = impl.AskWorld(w, x).World
	}
	return impl.SyncWorld(w, 1).World
}

// passedOn is w behind a forward of the write at index, from one to the next one, which makes it sure.
func passedOn(w impl.World, id, index int64) impl.World {
	next := besideOf(w, id, 1)
	w = impl.SendWorld(w, id, index).World
	return impl.SyncWorld(impl.HearWorld(w, placeOf(w, id, next, index)).World, next).World
}

// placeOf is where the forward from one to another of this index is under way, in the chain as it is.
func placeOf(w impl.World, id, next, index int64) int64 {
	return int64(slices.IndexFunc(w.Msgs, func(m impl.Msg) bool {
		return m.Kind == 1 && m.Epoch == w.Chain.Epoch && m.From == id && m.To == next && m.Index == index
	}))
}

// heardOf is what HearWorld answers of m alone, as if it had come last.
func heardOf(w impl.World, m impl.Msg) (before impl.World, got impl.WorldResult) {
	before = cloneWorld(w)
	before.Msgs = append(before.Msgs, m)
	return before, impl.HearWorld(before, int64(len(before.Msgs)-1))
}

// wantUnheard is a message that is no fault, but of which nothing is taken.
func wantUnheard(t *testing.T, what string, w impl.World, m impl.Msg) {
	t.Helper()
	before, got := heardOf(w, m)
	wantStill(t, what, got, eventOf(before))
}

func wantHeard(t *testing.T, what string, w impl.World, m impl.Msg, n impl.Node) {
	t.Helper()
	before, got := heardOf(w, m)
	wantMoved(t, what, got, eventOf(withNode(before, n)))
}

func TestWorldBounds(t *testing.T) {
	if impl.EntryWrite != 1 || impl.EntryRead != 2 || impl.EntryFind != 3 || impl.MaxEvents != 9999 || impl.MaxEntries != 60 || impl.LeaseTime != 4 {
		t.Error(impl.EntryWrite, impl.EntryRead, impl.EntryFind, impl.MaxEvents, impl.MaxEntries, impl.LeaseTime)
	}
}

func TestNewWorlds(t *testing.T) {
	for n := int64(1); n <= 5; n++ {
		want := impl.World{Chain: chainOf(1)}
		for id := int64(1); id <= n; id++ {
			want.Chain.Ids = append(want.Chain.Ids, id)
			want.Nodes = append(want.Nodes, impl.Node{Id: id, Up: true, Epoch: 1})
		}
		wantStill(t, "NewWorld", impl.NewWorld(n), want)
	}
}

func TestWorldsWithoutFault(t *testing.T) {
	for _, w := range manyWorlds() {
		if code := impl.WorldFault(w); code != impl.OK {
			t.Fatalf("WorldFault(%+v) = %d", w, code)
		}
	}
}

// A write goes from the head to the tail, and that it is there comes back; all that is told is written out.
func TestWorldOfExamples(t *testing.T) {
	put := putOf(5, 1, 1, 5, 0, 0)
	w := impl.NewWorld(3).World
	want := cloneWorld(w)
	want.Events, want.Nodes[0].Writes, want.History = 1, []impl.Write{put}, []impl.Entry{{Kind: 1, Session: 1, Seq: 1, Id: 5, Start: 1}}
	asked := impl.AskWorld(w, put)
	wantMoved(t, "AskWorld", asked, want)
	wantWorldCode(t, "SendWorld of what is not sure", impl.SendWorld(asked.World, 1, 1), impl.ErrRange)
	want.Events, want.Nodes[0].Sure = 2, 1
	synced := impl.SyncWorld(asked.World, 1)
	wantMoved(t, "SyncWorld", synced, want)
	want.Events, want.Msgs = 3, []impl.Msg{forwardOf(1, 1, 2, 1, put)}
	sent := impl.SendWorld(synced.World, 1, 1)
	wantMoved(t, "SendWorld", sent, want)
	want.Events, want.Nodes[1].Writes = 4, []impl.Write{put}
	heard := impl.HearWorld(sent.World, 0)
	wantMoved(t, "HearWorld", heard, want)
	want.Events = 5
	wantStill(t, "HearWorld again", impl.HearWorld(heard.World, 0), want)
	w = passedOn(impl.SyncWorld(heard.World, 2).World, 2, 1)
	w = impl.AckWorld(w, 3).World
	if last := w.Msgs[2]; !alikeMsg(last, ackOf(1, 3, 2, 1)) {
		t.Errorf("the tail's ack: %+v", last)
	}
	w = impl.AckWorld(impl.HearWorld(w, 2).World, 2).World
	w = impl.HearWorld(w, 3).World
	if w.Nodes[0].Clean != 1 || w.Nodes[1].Clean != 1 || w.Nodes[2].Clean != 0 || w.Nodes[2].Sure != 1 || w.Events != 12 || len(w.Msgs) != 4 {
		t.Errorf("%+v", w)
	}
}

// An ask is taken by the head alone, which may be any node; it is not sure there, and its entry has nothing but what is known of it.
func TestAsks(t *testing.T) {
	w := longWorld()
	for _, x := range []impl.Write{putOf(77, 2, 500, 1, 2, 3), dropOf(999, 9, 999), dropOf(1, 8, 9)} {
		want := eventOf(withNode(w, takenBy(nodeIn(w, 4), x)))
		want.History = append(want.History, impl.Entry{Kind: 1, Session: x.Session, Seq: x.Seq, Id: x.Id, Start: 501})
		wantMoved(t, "AskWorld", impl.AskWorld(w, x), want)
	}
}

// P13: a write that is asked for again is where it was, whatever else it says then, and however much there is at the head and in the history.
func TestAskedAgain(t *testing.T) {
	hit := 0
	for _, w := range manyWorlds() {
		head := nodeIn(w, w.Chain.Ids[0])
		for i, x := range head.Writes {
			if !memberOf(w, head.Id) || i%3 != 0 && i+1 < len(head.Writes) || len(notedIn(w, x.Session, x.Seq)) == 0 {
				continue
			}
			hit++
			for _, other := range otherOfTicket(x) {
				wantMoved(t, "AskWorld again", impl.AskWorld(w, other), eventOf(w))
			}
		}
	}
	if hit < 100 {
		t.Errorf("only %d writes were asked for again", hit)
	}
}

// With 60 entries a write that has one is asked for again, and one that has none is not; an entry of a read is none of a write, whatever it says.
func TestAskedAgainWithFullHistory(t *testing.T) {
	w := fullWorld()
	w.Events = 5000
	w.Nodes[2].Writes, w.Nodes[2].Sure, w.Nodes[2].Clean = fullWrites(9), 9, 9
	writes := fullWrites(20)
	for i, x := range writes {
		if w.History[3*i].Kind != 1 {
			t.Fatal(w.History[3*i])
		}
		w.History[3*i].Session, w.History[3*i].Seq = x.Session, x.Seq
	}
	for _, x := range writes[:9] {
		wantMoved(t, "AskWorld of one that is there and has an entry", impl.AskWorld(w, x), eventOf(w))
	}
	wantMoved(t, "AskWorld of one that has an entry alone", impl.AskWorld(w, writes[9]), eventOf(withNode(w, takenBy(nodeIn(w, 3), writes[9]))))
	reads := cloneWorld(w)
	for i := range reads.History {
		reads.History[i].Kind = 2 + int64(i%2)
	}
	for _, x := range writes[:10] {
		wantWorldCode(t, "AskWorld where only reads have its number", impl.AskWorld(reads, x), impl.ErrMany)
	}
	wantWorldCode(t, "AskWorld of one without an entry", impl.AskWorld(w, dropOf(1, 3, 900)), impl.ErrMany)
	w.History = w.History[:59]
	want := eventOf(withNode(w, takenBy(nodeIn(w, 3), dropOf(1, 3, 900))))
	want.History = append(want.History, impl.Entry{Kind: 1, Session: 3, Seq: 900, Id: 1, Start: 5001})
	wantMoved(t, "AskWorld of one more", impl.AskWorld(w, dropOf(1, 3, 900)), want)
}

// A write that the head has, but of which there is no entry: it stays where it was, and has an entry then, of what is asked now.
func TestAskedAgainWithoutAnEntry(t *testing.T) {
	w := longWorld()
	want := eventOf(w)
	want.History = append(want.History, impl.Entry{Kind: 1, Session: 2, Seq: 2, Id: 77, Start: 501})
	wantMoved(t, "AskWorld again", impl.AskWorld(w, dropOf(77, 2, 2)), want)
	w.History[0].Kind = 3
	want = eventOf(w)
	want.History = append(want.History, impl.Entry{Kind: 1, Session: 1, Seq: 1, Id: 1, Start: 501})
	wantMoved(t, "AskWorld again, a search with its number", impl.AskWorld(w, putOf(1, 1, 1, 0, 0, 0)), want)
}

// P13: where the head is gone, another head that has the write tells where it was, and one that has it not takes it; there is one entry either way.
func TestAskedAgainAtAnotherHead(t *testing.T) {
	writes := fullWrites(5)
	for had := range int64(6) {
		w := grownWorld(3, writes)
		for index := int64(1); index <= had; index++ {
			w = passedOn(w, 1, index)
		}
		for _, lost := range []bool{true, false} {
			next := cutBy(w, 1)
			if lost {
				next = cutBy(impl.CrashWorld(w, 1, 0).World, 1)
			}
			history := cloneHistory(next.History)
			for i, x := range writes {
				want := eventOf(next)
				if int64(i) >= had {
					want = withNode(want, takenBy(nodeIn(next, 2), x))
				}
				got := impl.AskWorld(next, x)
				wantMoved(t, "AskWorld at another head", got, want)
				next = got.World
			}
			if !slices.EqualFunc(next.History, history, alikeEntry) || !slices.EqualFunc(next.Nodes[1].Writes, writes, alike) {
				t.Fatalf("asked again at another head: %+v", next)
			}
		}
	}
}

// A head that was down and comes back out of the chain is asked no more; the one that is the head then is.
func TestAsksOfAHeadThatWasCut(t *testing.T) {
	w := grownWorld(2, fullWrites(1))
	w = impl.CrashWorld(w, 1, 0).World
	wantWorldCode(t, "AskWorld of a head that is down", impl.AskWorld(w, dropOf(1, 2, 2)), impl.ErrDown)
	w = impl.StartWorld(cutBy(w, 1), 1).World
	got := impl.AskWorld(w, dropOf(1, 2, 2))
	if got.Code != impl.OK || len(got.World.Nodes[0].Writes) != 1 || len(got.World.Nodes[1].Writes) != 1 || got.World.Nodes[0].Epoch != 1 {
		t.Errorf("%+v", got)
	}
}

// Each write that is sure may be sent, as often as one likes: the message is there once, and each time is an event.
func TestSendsOfWorlds(t *testing.T) {
	w := longWorld()
	w.Msgs = nil
	for _, x := range []struct{ id, next, sure int64 }{{4, 2, 9}, {2, 5, 6}} {
		for index := int64(1); index <= x.sure; index++ {
			m := forwardOf(7, x.id, x.next, index, w.Nodes[x.id-1].Writes[index-1])
			got := impl.SendWorld(w, x.id, index)
			want := eventOf(w)
			want.Msgs = append(want.Msgs, m)
			wantMoved(t, "SendWorld", got, want)
			wantMoved(t, "SendWorld again", impl.SendWorld(got.World, x.id, index), eventOf(want))
			w = got.World
		}
	}
}

// The tail tells all that is sure with it, one in the middle what it knows of the tail, and 0 where there is nothing.
func TestAcksOfWorlds(t *testing.T) {
	w := longWorld()
	w.Msgs = nil
	for _, x := range []struct{ id, ahead, index int64 }{{5, 2, 5}, {2, 4, 4}} {
		want := eventOf(w)
		want.Msgs = append(want.Msgs, ackOf(7, x.id, x.ahead, x.index))
		got := impl.AckWorld(w, x.id)
		wantMoved(t, "AckWorld", got, want)
		wantMoved(t, "AckWorld again", impl.AckWorld(got.World, x.id), eventOf(want))
		w = got.World
	}
	for n := int64(2); n <= 5; n++ {
		for id := int64(2); id <= n; id++ {
			w := impl.NewWorld(n).World
			want := eventOf(w)
			want.Msgs = []impl.Msg{ackOf(1, id, id-1, 0)}
			got := impl.AckWorld(w, id)
			wantMoved(t, "AckWorld of nothing", got, want)
			wantMoved(t, "HearWorld of an ack of 0", impl.HearWorld(got.World, 0), eventOf(want))
		}
	}
	tail := withNode(w, impl.Node{Id: 5, Up: true, Epoch: 7, Writes: fullWrites(6), Sure: 4, Clean: 1})
	want := eventOf(tail)
	want.Msgs = append(want.Msgs, ackOf(7, 5, 2, 4))
	wantMoved(t, "AckWorld of a tail whose Clean is less", impl.AckWorld(tail, 5), want)
}

// Of 40 messages one that is there is sent again, and another one has no room.
func TestFullNetsOfWorlds(t *testing.T) {
	w := longWorld()
	w.Msgs = fullMsgs(40)
	wantWorldCode(t, "SendWorld where there are 40", impl.SendWorld(w, 4, 1), impl.ErrMany)
	wantWorldCode(t, "AckWorld where there are 40", impl.AckWorld(w, 5), impl.ErrMany)
	w.Msgs[11], w.Msgs[39] = forwardOf(7, 4, 2, 1, fullWrites(1)[0]), ackOf(7, 5, 2, 5)
	wantMoved(t, "SendWorld of one that is there", impl.SendWorld(w, 4, 1), eventOf(w))
	wantMoved(t, "AckWorld of one that is there", impl.AckWorld(w, 5), eventOf(w))
	w.Msgs = w.Msgs[:39]
	want := eventOf(w)
	want.Msgs = append(want.Msgs, ackOf(7, 5, 2, 5))
	wantMoved(t, "AckWorld where there are 39", impl.AckWorld(w, 5), want)
}

// In a chain of one the head is the tail: it may be asked, synced, crashed and started, and has nobody to send to, or to hear.
func TestWorldsOfOne(t *testing.T) {
	w := grownWorld(1, fullWrites(2))
	wantWorldCode(t, "SendWorld of the only one", impl.SendWorld(w, 1, 1), impl.ErrState)
	wantWorldCode(t, "AckWorld of the only one", impl.AckWorld(w, 1), impl.ErrState)
	wantUnheard(t, "HearWorld of a forward from nobody", w, forwardOf(1, 2, 1, 3, dropOf(1, 5, 5)))
	wantUnheard(t, "HearWorld of an ack from nobody", w, ackOf(1, 2, 1, 2))
	wantUnheard(t, "HearWorld of a forward to nobody", w, forwardOf(1, 1, 2, 1, dropOf(1, 5, 5)))
	wantUnheard(t, "HearWorld of an ack to nobody", w, ackOf(1, 1, 5, 0))
	down := impl.CrashWorld(w, 1, 0)
	wantMoved(t, "CrashWorld", down, eventOf(withNode(w, crashedOf(nodeIn(w, 1), 2))))
	wantWorldCode(t, "AskWorld of one that is down", impl.AskWorld(down.World, dropOf(1, 5, 5)), impl.ErrDown)
	wantWorldCode(t, "SendWorld of one that is down", impl.SendWorld(down.World, 1, 1), impl.ErrDown)
	wantMoved(t, "StartWorld", impl.StartWorld(down.World, 1), eventsOf(w, 2))
}

// A forward is taken if it comes from the one ahead, is the next one, and is of this Epoch: as it stands, and no other.
func TestForwards(t *testing.T) {
	w := longWorld()
	two, five := nodeIn(w, 2), nodeIn(w, 5)
	put, drop := putOf(77, 6, 500, 1, 2, 3), dropOf(77, 6, 500)
	for _, x := range []impl.Write{put, drop, dropOf(1, 7, 8)} {
		wantHeard(t, "HearWorld of a forward", w, forwardOf(7, 4, 2, 8, x), takenBy(two, x))
		wantHeard(t, "HearWorld of a forward", w, forwardOf(7, 2, 5, 7, x), takenBy(five, x))
	}
	for epoch := int64(1); epoch <= 999; epoch++ {
		if epoch != 7 {
			wantUnheard(t, "HearWorld of another Epoch", w, forwardOf(epoch, 4, 2, 8, put))
		}
	}
	for index := int64(1); index <= 40; index++ {
		if index != 8 {
			wantUnheard(t, "HearWorld of another Index", w, forwardOf(7, 4, 2, index, put))
		}
	}
	for from := int64(1); from <= 5; from++ {
		for to := int64(1); to <= 5; to++ {
			isBeside := from == 4 && to == 2 || from == 2 && to == 5
			if from != to && !isBeside {
				wantUnheard(t, "HearWorld of one that is not ahead", w, forwardOf(7, from, to, int64(len(w.Nodes[to-1].Writes)+1), put))
			}
		}
	}
	for _, there := range two.Writes {
		for _, x := range otherOfTicket(there) {
			wantUnheard(t, "HearWorld of what is there", w, forwardOf(7, 4, 2, 8, x))
		}
	}
	wantUnheard(t, "HearWorld of an old number", w, forwardOf(7, 4, 2, 8, dropOf(1, 6, 5)))
	wantHeard(t, "HearWorld of the next number", w, forwardOf(7, 4, 2, 8, dropOf(1, 6, 7)), takenBy(two, dropOf(1, 6, 7)))
}

// The 40th write is taken; behind it there is no Index that would be the next one.
func TestForwardsToFullNodes(t *testing.T) {
	w := fullWorld()
	w.Nodes[0].Writes, w.Nodes[0].Sure, w.Nodes[0].Clean = fullWrites(39), 39, 0
	last := fullWrites(40)[39]
	wantHeard(t, "HearWorld of the 40th write", withMsgs(w, nil), forwardOf(999, 3, 1, 40, last), takenBy(nodeIn(w, 1), last))
	for index := int64(1); index <= 40; index++ {
		wantUnheard(t, "HearWorld by a full node", withMsgs(w, nil), forwardOf(999, 1, 5, index, dropOf(1, 9, 999)))
	}
}

func withMsgs(w impl.World, msgs []impl.Msg) impl.World {
	w = cloneWorld(w)
	w.Msgs = cloneMsgs(msgs)
	return w
}

// An ack is taken if it comes from the one behind, and is of this Epoch: it moves, though there may be nothing new in it.
func TestAcksAreHeard(t *testing.T) {
	w := longWorld()
	for index := range int64(41) {
		wantHeard(t, "HearWorld of an ack", w, ackOf(7, 5, 2, index), cleanedOf(nodeIn(w, 2), max(4, min(index, 6))))
		wantHeard(t, "HearWorld of an ack", w, ackOf(7, 2, 4, index), cleanedOf(nodeIn(w, 4), max(3, min(index, 9))))
		for from := int64(1); from <= 5; from++ {
			for to := int64(1); to <= 5; to++ {
				isBeside := from == 5 && to == 2 || from == 2 && to == 4
				if from != to && !isBeside {
					wantUnheard(t, "HearWorld of one that is not behind", w, ackOf(7, from, to, index))
				}
			}
		}
	}
	for epoch := int64(1); epoch <= 999; epoch++ {
		if epoch != 7 {
			wantUnheard(t, "HearWorld of another Epoch", w, ackOf(epoch, 5, 2, 5))
		}
	}
}

// What is under way to a node that is down moves nothing, and may be heard when the node is Up again.
func TestMessagesToOneThatIsDown(t *testing.T) {
	w := impl.SendWorld(grownWorld(3, fullWrites(1)), 1, 1).World
	w = impl.AckWorld(w, 3).World
	down := impl.CrashWorld(w, 2, 0).World
	for at := range int64(2) {
		wantStill(t, "HearWorld by one that is down", impl.HearWorld(down, at), eventOf(down))
	}
	up := impl.StartWorld(down, 2).World
	wantMoved(t, "HearWorld by one that is Up again", impl.HearWorld(up, 0), eventOf(withNode(up, takenBy(nodeIn(up, 2), fullWrites(1)[0]))))
	wantMoved(t, "HearWorld by one that is Up again", impl.HearWorld(up, 1), eventOf(up))
}

// A message stays what it was when the chain becomes another one: it is of an older Epoch then, even if the two are beside one another as before.
func TestMessagesOfAnOlderEpoch(t *testing.T) {
	w := impl.SendWorld(grownWorld(3, fullWrites(2)), 1, 1).World
	w = impl.AckWorld(impl.AckWorld(w, 3).World, 2).World
	for _, later := range []impl.World{cutBy(w, 3), cutBy(w, 1), joinedBy(cutBy(w, 3), 3), cutBy(w, 2)} {
		for at := range int64(3) {
			wantStill(t, "HearWorld of an older Epoch", impl.HearWorld(later, at), eventOf(later))
		}
	}
	later := cutBy(w, 3)
	got := impl.SendWorld(later, 1, 1)
	want := eventOf(later)
	want.Msgs = append(want.Msgs, forwardOf(2, 1, 2, 1, fullWrites(1)[0]))
	wantMoved(t, "SendWorld in the next Epoch", got, want)
	wantMoved(t, "HearWorld in the next Epoch", impl.HearWorld(got.World, 3), eventOf(withNode(want, takenBy(nodeIn(want, 2), fullWrites(1)[0]))))
}

// P13: what is heard twice does nothing the second time, at once or behind a sync; a forward tells so.
func TestHeardTwice(t *testing.T) {
	moved := map[int64]int{}
	for _, w := range manyWorlds() {
		for at, m := range w.Msgs {
			first := impl.HearWorld(w, int64(at))
			wantStep(t, "HearWorld", first, shouldHear(w, int64(at)))
			if w.Events > 9990 {
				continue
			}
			if first.Moved {
				moved[m.Kind]++
			}
			second := impl.HearWorld(first.World, int64(at))
			wantStep(t, "HearWorld again", second, impl.WorldResult{Moved: first.Moved && m.Kind == 2, World: eventOf(first.World)})
			if synced := impl.SyncWorld(first.World, m.To); synced.Code == impl.OK && first.Moved && m.Kind == 1 {
				wantStill(t, "HearWorld again, behind a sync", impl.HearWorld(synced.World, int64(at)), eventOf(synced.World))
			}
		}
	}
	if moved[1] < 20 || moved[2] < 20 {
		t.Errorf("so many forwards and acks moved something: %v", moved)
	}
}

// P13: what was heard once is heard again in any order, with others between, and nothing is there twice.
func TestHeardInAnyOrder(t *testing.T) {
	from := rand.New(rand.NewSource(53))
	writes := fullWrites(6)
	sent := grownWorld(2, writes)
	for index := int64(6); index >= 1; index-- {
		sent = impl.SendWorld(sent, 1, index).World
	}
	for range 40 {
		w := sent
		for len(w.Nodes[1].Writes) < 6 {
			w = impl.HearWorld(w, from.Int63n(6)).World
			if !slices.EqualFunc(w.Nodes[1].Writes, writes[:len(w.Nodes[1].Writes)], alike) {
				t.Fatalf("%+v are not the first of %+v", w.Nodes[1].Writes, writes)
			}
		}
		for at := range int64(6) {
			wantStill(t, "HearWorld of what is there", impl.HearWorld(w, at), eventOf(w))
		}
	}
}

// P13: behind a sync and a crash a node comes back with all that it had, whichever it is.
func TestSyncedAndCrashedComesBack(t *testing.T) {
	for _, w := range manyWorlds() {
		if w.Events > 9990 {
			continue
		}
		for _, n := range w.Nodes {
			if !n.Up {
				continue
			}
			down := impl.CrashWorld(impl.SyncWorld(w, n.Id).World, n.Id, 0)
			wantMoved(t, "SyncWorld, then CrashWorld", down, eventsOf(withNode(w, crashedOf(n, int64(len(n.Writes)))), 2))
			back := impl.StartWorld(down.World, n.Id)
			want := syncedOf(n)
			want.Lease, want.Clean = 0, 0
			wantMoved(t, "and then StartWorld", back, eventsOf(withNode(w, want), 3))
		}
	}
}

// A crash without a sync leaves what was sure, and as many of the others as are kept.
func TestCrashesOfWorlds(t *testing.T) {
	w := longWorld()
	for _, x := range []struct{ id, sure, loose int64 }{{1, 3, 1}, {2, 6, 1}, {4, 9, 1}, {5, 5, 1}} {
		for kept := range x.loose + 1 {
			wantMoved(t, "CrashWorld", impl.CrashWorld(w, x.id, kept), eventOf(withNode(w, crashedOf(nodeIn(w, x.id), x.sure+kept))))
		}
	}
}

// A node that is started in the chain knows its Epoch, also if that is another one by now; out of it, it knows what it knew.
func TestStarts(t *testing.T) {
	w := longWorld()
	three := startedOf(nodeIn(w, 3))
	wantMoved(t, "StartWorld out of the chain", impl.StartWorld(w, 3), eventOf(withNode(w, three)))
	w.Chain.Ids = append(w.Chain.Ids, 3)
	three.Epoch = 7
	got := impl.StartWorld(w, 3)
	wantMoved(t, "StartWorld in the chain", got, eventOf(withNode(w, three)))
	wantMoved(t, "AckWorld by one that was started", impl.AckWorld(got.World, 3), shouldAck(got.World, 3).World)
	if w.Nodes[2].Epoch = 0; !memberOf(impl.StartWorld(w, 3).World, 3) {
		t.Error("a node that knew no Epoch is no member behind its start")
	}
}

// Events go up to 9999: one below it there is one more, and at it none.
func TestEventsEnd(t *testing.T) {
	w := longWorld()
	w.Events = 9998
	last := map[string]func(impl.World) impl.WorldResult{
		"AskWorld":        func(w impl.World) impl.WorldResult { return impl.AskWorld(w, dropOf(1, 9, 999)) },
		"AskWorld again":  func(w impl.World) impl.WorldResult { return impl.AskWorld(w, fullWrites(1)[0]) },
		"SendWorld":       func(w impl.World) impl.WorldResult { return impl.SendWorld(w, 4, 1) },
		"AckWorld":        func(w impl.World) impl.WorldResult { return impl.AckWorld(w, 5) },
		"HearWorld":       func(w impl.World) impl.WorldResult { return impl.HearWorld(w, 0) },
		"HearWorld, none": func(w impl.World) impl.WorldResult { return impl.HearWorld(w, 4) },
		"SyncWorld":       func(w impl.World) impl.WorldResult { return impl.SyncWorld(w, 2) },
		"CrashWorld":      func(w impl.World) impl.WorldResult { return impl.CrashWorld(w, 2, 1) },
		"StartWorld":      func(w impl.World) impl.WorldResult { return impl.StartWorld(w, 3) },
	}
	for what, step := range last {
		got := step(w)
		if got.Code != impl.OK || got.World.Events != 9999 || got.Moved != (what != "HearWorld, none") || impl.WorldFault(got.World) != impl.OK {
			t.Errorf("%s, of the last event: %+v", what, got)
		}
		for again, step := range last {
			wantWorldCode(t, again+" behind the last event", step(got.World), impl.ErrMany)
		}
	}
	if e := last["AskWorld"](w).World.History[5]; e.Start != 9999 || e.End != 0 {
		t.Errorf("the entry of the last event: %+v", e)
	}
}

// All steps in any order, each held against what it should be, in chains that are cut and joined between; and each kind of answer is met.
func TestWorldsOfManySteps(t *testing.T) {
	from := rand.New(rand.NewSource(52))
	met := map[string]int{}
	for round := range int64(60) {
		w := impl.NewWorld(1 + round%5).World
		for range 150 {
			if from.Intn(15) == 0 {
				w = turnedBy(from, w)
			}
			what, got, want := someStep(from, w)
			wantStep(t, what, got, want)
			met[what+string(rune('0'+got.Code))]++
			if got.Moved {
				met[what+" moved"]++
			}
			if got.Code == impl.OK {
				w = got.World
			}
		}
	}
	for _, what := range []string{"AskWorld moved", "SendWorld moved", "AckWorld moved", "HearWorld moved", "SyncWorld moved", "CrashWorld moved", "StartWorld moved", "HearWorld0", "HearWorld3", "AskWorld7", "AskWorld:", "SendWorld3", "SendWorld4", "SendWorld8", "SendWorld:", "AckWorld4", "AckWorld8", "AckWorld:", "SyncWorld4", "SyncWorld:", "CrashWorld3", "CrashWorld:", "StartWorld8"} {
		if met[what] < 3 {
			t.Errorf("%s was met %d times", what, met[what])
		}
	}
}

// P1: what is asked again is answered again.
func TestWorldsAnswerAgain(t *testing.T) {
	w := longWorld()
	for range 3 {
		wantStep(t, "AskWorld", impl.AskWorld(w, dropOf(1, 9, 999)), shouldAsk(w, dropOf(1, 9, 999)))
		wantStep(t, "SendWorld", impl.SendWorld(w, 4, 2), shouldSend(w, 4, 2))
		wantStep(t, "AckWorld", impl.AckWorld(w, 2), shouldAck(w, 2))
		wantStep(t, "HearWorld", impl.HearWorld(w, 0), shouldHear(w, 0))
		wantStep(t, "SyncWorld", impl.SyncWorld(w, 1), shouldSync(w, 1))
		wantStep(t, "CrashWorld", impl.CrashWorld(w, 4, 1), shouldCrash(w, 4, 1))
		wantStep(t, "StartWorld", impl.StartWorld(w, 3), shouldStart(w, 3))
		wantStill(t, "NewWorld", impl.NewWorld(1), impl.World{Chain: chainOf(1, 1), Nodes: []impl.Node{{Id: 1, Up: true, Epoch: 1}}})
	}
}
