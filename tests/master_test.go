package tests

import (
	"math/rand"
	"slices"
	"testing"

	"loop.example/g00357/impl"
)

// ranOn is w when so much time went by, in ticks that are as long as they may be.
func ranOn(t *testing.T, w impl.World, n int64) impl.World {
	t.Helper()
	for n > 0 {
		tick := impl.TickWorld(w, min(n, 100))
		wantStep(t, "TickWorld", tick, shouldTick(w, min(n, 100)))
		w, n = tick.World, n-min(n, 100)
	}
	return w
}

// leasedAt is a world of n in a chain of this Epoch, all members, each of which may answer until lease.
func leasedAt(n, epoch, now, lease int64) impl.World {
	w := impl.NewWorld(n).World
	w.Now, w.Chain.Epoch = now, epoch
	for i := range w.Nodes {
		w.Nodes[i].Epoch, w.Nodes[i].Lease = epoch, lease
	}
	return w
}

// The middle one of three is given a lease, is removed when that is over, and joins again; all that is told is written out.
func TestMasterOfExamples(t *testing.T) {
	put := putOf(5, 1, 1, 5, 0, 0)
	want := impl.World{Chain: chainOf(1, 1, 2, 3), Nodes: []impl.Node{{Id: 1, Up: true, Epoch: 1}, {Id: 2, Up: true, Epoch: 1}, {Id: 3, Up: true, Epoch: 1}}}
	want.Events, want.Nodes[1].Lease = 1, 4
	beat := impl.BeatWorld(impl.NewWorld(3).World, 2)
	wantMoved(t, "BeatWorld", beat, want)
	wantWorldCode(t, "RemoveWorld of a lease that runs", impl.RemoveWorld(beat.World, 2), impl.ErrLease)
	want.Events, want.Now = 2, 4
	late := impl.TickWorld(beat.World, 4)
	wantMoved(t, "TickWorld", late, want)
	wantWorldCode(t, "RemoveWorld at the last moment of a lease", impl.RemoveWorld(late.World, 2), impl.ErrLease)
	want.Events, want.Now = 3, 5
	over := impl.TickWorld(late.World, 1)
	wantMoved(t, "TickWorld", over, want)
	want.Events, want.Chain, want.Nodes[0].Epoch, want.Nodes[2].Epoch = 4, chainOf(2, 1, 3), 2, 2
	removed := impl.RemoveWorld(over.World, 2)
	wantMoved(t, "RemoveWorld", removed, want)
	w := passedOn(impl.SyncWorld(impl.AskWorld(removed.World, put).World, 1).World, 1, 1)
	wantCommitted(t, "CommittedIn", w)
	if got := impl.CommittedIn(w); got.Value != 1 {
		t.Errorf("CommittedIn = %+v", got)
	}
	want = cloneWorld(w)
	want.Events, want.Chain, want.Nodes[0].Epoch, want.Nodes[2].Epoch = 10, chainOf(3, 1, 3, 2), 3, 3
	want.Nodes[1] = impl.Node{Id: 2, Up: true, Epoch: 3, Writes: []impl.Write{put}, Sure: 1, Clean: 1}
	joined := impl.JoinWorld(w, 2)
	wantMoved(t, "JoinWorld", joined, want)
	want.Events, want.Msgs = 11, nil
	wantMoved(t, "LoseWorld", impl.LoseWorld(joined.World, 0), want)
	wantWorldCode(t, "LoseWorld of none", impl.LoseWorld(over.World, 0), impl.ErrRange)
}

// A tick of 0 is an event, but has not Moved; each other one is so much later, and nothing else.
func TestTicks(t *testing.T) {
	w := longWorld()
	for n := int64(1); n <= 100; n++ {
		want := eventOf(w)
		want.Now = 77 + n
		wantMoved(t, "TickWorld", impl.TickWorld(w, n), want)
	}
	for _, w := range []impl.World{longWorld(), fullWorld(), impl.NewWorld(1).World} {
		wantStill(t, "TickWorld of 0", impl.TickWorld(w, 0), eventOf(w))
	}
}

// Now comes up to 9000, by ticks of whatever length, and stays there.
func TestTimeEnds(t *testing.T) {
	for n := range int64(101) {
		w := leasedAt(2, 1, 9000-n, 9)
		last := impl.TickWorld(w, n)
		wantStep(t, "TickWorld up to the end", last, impl.WorldResult{Moved: n > 0, World: eventOf(leasedAt(2, 1, 9000, 9))})
		wantStill(t, "TickWorld of 0 at the end", impl.TickWorld(last.World, 0), eventOf(last.World))
		for more := int64(1); more <= 100; more++ {
			wantWorldCode(t, "TickWorld at the end", impl.TickWorld(last.World, more), impl.ErrRange)
		}
		if n < 100 {
			wantWorldCode(t, "TickWorld by one too many", impl.TickWorld(w, n+1), impl.ErrRange)
		}
	}
	w := ranOn(t, impl.NewWorld(2).World, 9000)
	if w.Now != 9000 || w.Events != 90 {
		t.Errorf("behind ticks of 9000: %+v", w)
	}
	wantMoved(t, "BeatWorld at the end", impl.BeatWorld(w, 1), eventOf(withNode(w, impl.Node{Id: 1, Up: true, Epoch: 1, Lease: 9004})))
}

// A beat gives a lease of 4 from Now on, to each member, also where it had another one: a longer one, or one that was over.
func TestBeats(t *testing.T) {
	for _, now := range []int64{0, 1, 77, 8999, 9000} {
		for _, lease := range []int64{0, now - 1, now, now + 1, now + 3, now + 4, now + 5, 9999} {
			for n := int64(1); n <= 5 && lease >= 0; n++ {
				w := leasedAt(n, 7, now, lease)
				for id := int64(1); id <= n; id++ {
					got := impl.BeatWorld(w, id)
					wantMoved(t, "BeatWorld", got, eventOf(withNode(w, impl.Node{Id: id, Up: true, Epoch: 7, Lease: now + 4})))
					wantMoved(t, "BeatWorld again", impl.BeatWorld(got.World, id), eventOf(got.World))
				}
			}
		}
	}
	w := longWorld()
	for _, id := range []int64{2, 4, 5} {
		n := nodeIn(w, id)
		n.Lease = 81
		wantMoved(t, "BeatWorld", impl.BeatWorld(w, id), eventOf(withNode(w, n)))
	}
}

// One that is Up is removed as soon as its Lease is below Now: not at its last moment, but at the next one.
func TestLeasesAtTheirLastMoment(t *testing.T) {
	for _, now := range []int64{0, 1, 2, 5, 77, 8999, 9000} {
		for _, lease := range []int64{0, now - 2, now - 1, now, now + 1, now + 4, 9999} {
			for id := int64(1); id <= 3 && lease >= 0; id++ {
				w := leasedAt(3, 4, now, lease)
				if lease < now {
					wantMoved(t, "RemoveWorld", impl.RemoveWorld(w, id), eventOf(cutBy(w, id)))
				} else {
					wantWorldCode(t, "RemoveWorld of a lease that runs", impl.RemoveWorld(w, id), impl.ErrLease)
				}
			}
		}
	}
}

// The lease of the one that is removed is asked alone: those of the others may run, or be over.
func TestLeasesOfTheOthers(t *testing.T) {
	for id := int64(1); id <= 3; id++ {
		runs, isOver := leasedAt(3, 4, 50, 60), leasedAt(3, 4, 50, 40)
		runs.Nodes[id-1].Lease, isOver.Nodes[id-1].Lease = 49, 50
		wantMoved(t, "RemoveWorld where the others' run", impl.RemoveWorld(runs, id), eventOf(cutBy(runs, id)))
		wantWorldCode(t, "RemoveWorld where the others' are over", impl.RemoveWorld(isOver, id), impl.ErrLease)
	}
}

// Behind a beat one cannot be removed for 4, in one tick or in several; it can at 5, but not behind another beat.
func TestLeasesRunOut(t *testing.T) {
	for id := int64(1); id <= 3; id++ {
		beat := impl.BeatWorld(ranOn(t, impl.NewWorld(3).World, 130), id).World
		w := beat
		for n := range int64(5) {
			wantWorldCode(t, "RemoveWorld, one tick", impl.RemoveWorld(impl.TickWorld(beat, n).World, id), impl.ErrLease)
			wantWorldCode(t, "RemoveWorld, ticks of 1", impl.RemoveWorld(w, id), impl.ErrLease)
			w = impl.TickWorld(w, 1).World
		}
		for _, w := range []impl.World{w, impl.TickWorld(beat, 5).World, impl.TickWorld(beat, 100).World} {
			wantMoved(t, "RemoveWorld", impl.RemoveWorld(w, id), eventOf(cutBy(w, id)))
			wantWorldCode(t, "RemoveWorld behind another beat", impl.RemoveWorld(impl.BeatWorld(w, id).World, id), impl.ErrLease)
		}
	}
}

// One that is down has no lease: where it crashes while its lease runs on, nobody has to wait for that.
func TestLeasesOfThoseThatAreDown(t *testing.T) {
	for _, now := range []int64{0, 1, 50, 9000} {
		for id := int64(1); id <= 3; id++ {
			w := leasedAt(3, 4, now, now+4)
			wantWorldCode(t, "RemoveWorld ahead of the crash", impl.RemoveWorld(w, id), impl.ErrLease)
			down := impl.CrashWorld(w, id, 0).World
			wantMoved(t, "RemoveWorld behind the crash", impl.RemoveWorld(down, id), eventOf(cutBy(down, id)))
			up := impl.StartWorld(down, id).World
			wantStep(t, "RemoveWorld behind the start", impl.RemoveWorld(up, id), shouldRemove(up, id))
			wrong := cloneWorld(down)
			wrong.Nodes[id-1].Lease = now + 1
			wantWorldCode(t, "RemoveWorld of one that is down, with a lease", impl.RemoveWorld(wrong, id), impl.ErrForm)
		}
	}
}

// The head, the tail or one in the middle is removed, and the others stay in their order; of one nobody is.
func TestRemovals(t *testing.T) {
	for n := int64(2); n <= 5; n++ {
		w := leasedAt(n, 6, 9, 8)
		for id := int64(1); id <= n; id++ {
			got := impl.RemoveWorld(w, id)
			wantMoved(t, "RemoveWorld", got, eventOf(cutBy(w, id)))
			if !slices.Equal(got.World.Chain.Ids, withoutId(w.Chain.Ids, id)) || got.World.Chain.Epoch != 7 {
				t.Errorf("RemoveWorld of %d: %+v", id, got.World.Chain)
			}
			wantWorldCode(t, "RemoveWorld again", impl.RemoveWorld(got.World, id), impl.ErrNone)
		}
		for id := int64(1); id < n; id++ {
			w = impl.RemoveWorld(w, id).World
		}
		wantWorldCode(t, "RemoveWorld of the last one", impl.RemoveWorld(w, n), impl.ErrState)
		down := impl.CrashWorld(w, n, 0).World
		wantWorldCode(t, "RemoveWorld of the last one, that is down", impl.RemoveWorld(down, n), impl.ErrState)
	}
}

// Behind a removal the next one is the head, the one ahead is the tail, and the two beside a gap are beside one another.
func TestChainsGoOnBehindRemovals(t *testing.T) {
	put := putOf(5, 1, 9, 5, 0, 0)
	w := lateWorld()
	head := impl.RemoveWorld(w, 4).World
	wantMoved(t, "AskWorld of the next head", impl.AskWorld(head, put), shouldAsk(head, put).World)
	if asked := impl.AskWorld(head, put).World; len(asked.Nodes[1].Writes) != 8 || len(asked.Nodes[3].Writes) != 10 {
		t.Errorf("AskWorld behind a removal of the head: %+v", asked)
	}
	wantWorldCode(t, "AckWorld of the next head", impl.AckWorld(head, 2), impl.ErrState)
	tail := impl.RemoveWorld(w, 5).World
	wantWorldCode(t, "SendWorld of the tail", impl.SendWorld(tail, 2, 1), impl.ErrState)
	want := eventOf(tail)
	want.Msgs = append(want.Msgs, ackOf(8, 2, 4, 6))
	wantMoved(t, "AckWorld of the tail", impl.AckWorld(tail, 2), want)
	wantCommitted(t, "RemoveWorld of the tail", tail)
	middle := impl.RemoveWorld(w, 2).World
	want = eventOf(middle)
	want.Msgs = append(want.Msgs, forwardOf(8, 4, 5, 7, fullWrites(7)[6]))
	got := impl.SendWorld(middle, 4, 7)
	wantMoved(t, "SendWorld over the gap", got, want)
	wantMoved(t, "HearWorld over the gap", impl.HearWorld(got.World, 8), eventOf(withNode(want, takenBy(nodeIn(want, 5), fullWrites(7)[6]))))
}

// withStandings is a chain of 1, 2 and 3 of five, where 2 is down and of an older Epoch, 4 is Up and 5 is down.
func withStandings() impl.World {
	w := leasedAt(5, 9, 40, 30)
	w.Chain.Ids = []int64{1, 2, 3}
	w.Nodes[1] = impl.Node{Id: 2, Epoch: 3, Writes: fullWrites(2), Sure: 2}
	w.Nodes[3].Epoch = 5
	w.Nodes[4] = impl.Node{Id: 5, Epoch: 9}
	return w
}

func epochsIn(w impl.World) []int64 {
	var list []int64
	for _, n := range w.Nodes {
		list = append(list, n.Epoch)
	}
	return list
}

// Those that are Up and in the chain know the next Epoch at once, with the lease that they had; who is down or out of it, or was removed, knows what it knew.
func TestWhoKnowsTheNextEpoch(t *testing.T) {
	w := withStandings()
	for _, x := range []struct {
		what string
		got  impl.WorldResult
		want []int64
	}{
		{"RemoveWorld of the head", impl.RemoveWorld(w, 1), []int64{9, 3, 10, 5, 9}},
		{"RemoveWorld of one that is down", impl.RemoveWorld(w, 2), []int64{10, 3, 10, 5, 9}},
		{"RemoveWorld of the tail", impl.RemoveWorld(w, 3), []int64{10, 3, 9, 5, 9}},
		{"JoinWorld", impl.JoinWorld(w, 4), []int64{10, 3, 10, 10, 9}},
	} {
		if !x.got.Moved || !slices.Equal(epochsIn(x.got.World), x.want) {
			t.Errorf("%s: the Epochs %v, want %v", x.what, epochsIn(x.got.World), x.want)
		}
		if first := x.got.World.Nodes[0]; first.Lease != 30 {
			t.Errorf("%s: %+v has lost its lease", x.what, first)
		}
	}
	started := impl.StartWorld(impl.RemoveWorld(w, 1).World, 2).World
	if !memberOf(started, 2) || started.Nodes[1].Epoch != 10 {
		t.Errorf("StartWorld of one in the chain: %+v", started.Nodes[1])
	}
	started = impl.StartWorld(impl.RemoveWorld(w, 2).World, 2).World
	if memberOf(started, 2) || started.Nodes[1].Epoch != 3 {
		t.Errorf("StartWorld of one that was removed: %+v", started.Nodes[1])
	}
}

// Epochs end at 999: the one ahead of it may be changed, and then no more.
func TestEpochsOfWorldsEnd(t *testing.T) {
	w := leasedAt(4, 998, 40, 30)
	w.Chain.Ids, w.Nodes[3].Epoch = []int64{1, 2, 3}, 2
	for _, last := range []impl.WorldResult{impl.RemoveWorld(w, 2), impl.JoinWorld(w, 4)} {
		if !last.Moved || last.World.Chain.Epoch != 999 || impl.WorldFault(last.World) != impl.OK {
			t.Fatalf("up to the last Epoch: %+v", last)
		}
		for id := int64(1); id <= 4; id++ {
			if slices.Contains(last.World.Chain.Ids, id) {
				wantWorldCode(t, "RemoveWorld of the last Epoch", impl.RemoveWorld(last.World, id), impl.ErrMany)
			} else {
				wantWorldCode(t, "JoinWorld of the last Epoch", impl.JoinWorld(last.World, id), impl.ErrMany)
			}
		}
		beat := nodeIn(last.World, 1)
		beat.Lease = 44
		wantMoved(t, "BeatWorld of the last Epoch", impl.BeatWorld(last.World, 1), eventOf(withNode(last.World, beat)))
	}
}

// P14: who joins has just what is sure at the tail, however much of it, and of its own nothing; the tail ahead keeps what is not sure.
func TestJoinsOfAllThatIsSure(t *testing.T) {
	writes := fullWrites(40)
	for _, count := range []int64{0, 1, 2, 7, 39, 40} {
		for _, sure := range edgesOf(count) {
			for _, own := range []impl.Node{{Id: 3, Up: true}, {Id: 3, Up: true, Epoch: 6, Lease: 99, Writes: lostWrites(), Sure: 3, Clean: 2}, {Id: 3, Up: true, Epoch: 2, Lease: 1, Writes: writes, Sure: 40, Clean: 40}} {
				w := leasedAt(3, 6, 50, 52)
				w.Chain.Ids = []int64{2, 1}
				w.Nodes[0].Writes, w.Nodes[0].Sure, w.Nodes[0].Clean = writes[:count], sure, sure/2
				w.Nodes[2] = own
				want := eventOf(w)
				want.Chain, want.Nodes[0].Epoch, want.Nodes[1].Epoch = chainOf(7, 2, 1, 3), 7, 7
				want.Nodes[2] = impl.Node{Id: 3, Up: true, Epoch: 7, Writes: writes[:sure], Sure: sure, Clean: sure}
				got := impl.JoinWorld(w, 3)
				wantMoved(t, "JoinWorld", got, want)
				wantCommitted(t, "JoinWorld", got.World)
				if impl.CommittedIn(w) != impl.CommittedIn(got.World) {
					t.Fatalf("JoinWorld changed what is at the tail: %+v", got.World)
				}
			}
		}
	}
}

// lostWrites are such as no other node has.
func lostWrites() []impl.Write {
	return []impl.Write{putOf(900, 8, 1, 1, 2, 3), dropOf(901, 8, 2), putOf(902, 7, 5, 3, 2, 1), dropOf(903, 6, 6)}
}

// What was not sure at the tail when one joined comes to it by a forward, as to any other one.
func TestWritesThatWereNotSureComeToTheNextTail(t *testing.T) {
	writes := fullWrites(3)
	w := leasedAt(2, 1, 9, 8)
	w.Nodes[0].Writes, w.Nodes[0].Sure, w.Nodes[0].Clean = writes, 1, 0
	w = impl.JoinWorld(impl.RemoveWorld(w, 2).World, 2).World
	wantWorldCode(t, "SendWorld of what is not sure", impl.SendWorld(w, 1, 2), impl.ErrRange)
	w = impl.SyncWorld(w, 1).World
	for index := int64(2); index <= 3; index++ {
		w = passedOn(w, 1, index)
		if got := impl.CommittedIn(w); got.Value != index || !slices.EqualFunc(w.Nodes[1].Writes, writes[:index], alike) {
			t.Fatalf("CommittedIn = %+v of %+v", got, w)
		}
	}
}

// P14: for whoever may join, in worlds that come of many steps and turns: it is the tail, behind the one that was, and has all that was there.
func TestWhoJoinsIsTheTail(t *testing.T) {
	hit := 0
	for _, w := range ledWorlds() {
		for id := int64(1); id <= int64(len(w.Nodes)); id++ {
			got := impl.JoinWorld(w, id)
			wantStep(t, "JoinWorld", got, shouldJoin(w, id))
			if got.Code != impl.OK {
				continue
			}
			hit++
			n := got.World.Nodes[id-1]
			if lastId(got.World) != id || !memberOf(got.World, id) || besideOf(got.World, id, -1) != lastId(w) || n.Lease != 0 {
				t.Fatalf("%d is not the tail of %+v", id, got.World)
			}
			if !slices.EqualFunc(n.Writes, committedOf(w), alike) || !slices.EqualFunc(committedOf(got.World), committedOf(w), alike) {
				t.Fatalf("%d has not what was at the tail: %+v", id, got.World)
			}
			for other := int64(1); other <= int64(len(w.Nodes)); other++ {
				if other != id && memberOf(w, other) != memberOf(got.World, other) {
					t.Fatalf("JoinWorld of %d: %d is a member, or is not: %+v", id, other, got.World)
				}
			}
		}
	}
	if hit < 50 {
		t.Errorf("only %d joined", hit)
	}
}

// wantMute is one that is out of the chain: it does nothing that a member does, and what is heard by it changes nothing.
func wantMute(t *testing.T, w impl.World, id int64) {
	t.Helper()
	if n := w.Nodes[id-1]; n.Epoch >= w.Chain.Epoch || n.Lease >= w.Now && n.Lease != 0 {
		t.Fatalf("%+v was removed from %+v", n, w)
	}
	wantWorldCode(t, "SendWorld by one that was removed", impl.SendWorld(w, id, 1), impl.ErrDown)
	wantWorldCode(t, "AckWorld by one that was removed", impl.AckWorld(w, id), impl.ErrDown)
	wantWorldCode(t, "BeatWorld of one that was removed", impl.BeatWorld(w, id), impl.ErrDown)
	wantAnswerCode(t, "ReadWorld of one that was removed", impl.ReadWorld(w, id, 1), impl.ErrDown)
	wantAnswerCode(t, "FindWorld of one that was removed", impl.FindWorld(w, id, []int64{1, 2, 3}, 1), impl.ErrDown)
	if code := impl.MayAnswer(w, id); code != impl.ErrDown {
		t.Fatalf("MayAnswer of one that was removed: %d", code)
	}
	for at, m := range w.Msgs {
		if m.To == id {
			wantStill(t, "HearWorld by one that was removed", impl.HearWorld(w, int64(at)), eventOf(w))
		}
	}
}

// P14: who was removed answers no more until it joins again, whatever comes next; nobody has told it, for nothing of it changed.
func TestWhoWasRemovedAnswersNoMore(t *testing.T) {
	from := rand.New(rand.NewSource(62))
	removals, mutes := 0, 0
	for round := range int64(40) {
		w := impl.NewWorld(2 + round%4).World
		for range 100 {
			_, got, _ := someMove(from, w)
			if got.Code != impl.OK {
				continue
			}
			for id := int64(1); id <= int64(len(w.Nodes)); id++ {
				isOut := !slices.Contains(got.World.Chain.Ids, id)
				if isOut && slices.Contains(w.Chain.Ids, id) {
					removals++
					if was, is := w.Nodes[id-1], got.World.Nodes[id-1]; !alikeNode(was, is) || was.Up && was.Lease >= w.Now {
						t.Fatalf("%+v was removed, and became %+v", was, is)
					}
				}
				if isOut {
					mutes++
					wantMute(t, got.World, id)
				}
			}
			w = got.World
		}
	}
	if removals < 50 || mutes < 500 {
		t.Errorf("%d were removed, and %d times one was out", removals, mutes)
	}
}

// P14: one that is Up when it is removed, and crashes and is started behind that, is told nothing, and answers no more; nor does what it sent ahead of that.
func TestRemovedAndStartedAgain(t *testing.T) {
	w := impl.SyncWorld(grownWorld(3, fullWrites(3)), 1).World
	w = impl.AckWorld(impl.SendWorld(passedOn(passedOn(w, 1, 1), 1, 2), 2, 1).World, 2).World
	w = impl.RemoveWorld(impl.TickWorld(impl.BeatWorld(w, 2).World, 5).World, 2).World
	wantMute(t, w, 2)
	for at := range w.Msgs {
		wantStill(t, "HearWorld of what was sent ahead of a removal", impl.HearWorld(w, int64(at)), eventOf(w))
	}
	w = impl.StartWorld(impl.CrashWorld(w, 2, 0).World, 2).World
	if n := w.Nodes[1]; !n.Up || n.Epoch != 1 || len(n.Writes) != 2 {
		t.Errorf("%+v was started", n)
	}
	wantMute(t, w, 2)
	wantWorldCode(t, "AskWorld of a head that was removed", askedOfRemoved(), impl.ErrDown)
}

// askedOfRemoved asks a chain whose one member was removed, and is Up, while the head that is left is down.
func askedOfRemoved() impl.WorldResult {
	w := impl.TickWorld(impl.NewWorld(2).World, 1).World
	w = impl.CrashWorld(impl.RemoveWorld(w, 1).World, 2, 0).World
	return impl.AskWorld(w, dropOf(1, 1, 1))
}

// The tail is down, and removed: the one ahead is the tail, and has all that the tail had.
func TestTailsThatAreDown(t *testing.T) {
	w := grownWorld(3, fullWrites(3))
	for index := int64(1); index <= 3; index++ {
		w = passedOn(w, 1, index)
	}
	w = passedOn(passedOn(w, 2, 1), 2, 2)
	down := impl.CrashWorld(w, 3, 0).World
	wantCommitted(t, "a tail that is down", down)
	got := impl.RemoveWorld(down, 3)
	wantMoved(t, "RemoveWorld of a tail that is down", got, eventOf(cutBy(down, 3)))
	if lastId(got.World) != 2 || impl.CommittedIn(down).Value != 2 || impl.CommittedIn(got.World).Value != 3 {
		t.Errorf("%+v", got.World)
	}
}

// What is at the tail stays there: whoever is removed, joins, crashes or comes back.
func TestWhatIsAtTheTailStays(t *testing.T) {
	from := rand.New(rand.NewSource(63))
	grew := 0
	for round := range int64(60) {
		w := impl.NewWorld(1 + round%5).World
		for range 150 {
			what, got, _ := someMove(from, w)
			if got.Code != impl.OK {
				continue
			}
			was, is := committedOf(w), committedOf(got.World)
			if len(is) < len(was) || !slices.EqualFunc(is[:len(was)], was, alike) {
				t.Fatalf("%s: %+v became %+v at the tail", what, was, is)
			}
			wantCommitted(t, what, got.World)
			grew += len(is) - len(was)
			w = got.World
		}
	}
	if grew < 100 {
		t.Errorf("only %d writes came to a tail", grew)
	}
}

// How many are at the tail is told at 9999 events, too, and of a tail that is down or has writes that are not sure.
func TestCommitted(t *testing.T) {
	for _, w := range ledWorlds() {
		wantCommitted(t, "CommittedIn", w)
		w.Events = 9999
		wantCommitted(t, "CommittedIn at 9999 events", w)
	}
	for _, x := range []struct {
		w    impl.World
		want int64
	}{{longWorld(), 5}, {fullWorld(), 34}, {impl.NewWorld(5).World, 0}, {impl.CrashWorld(longWorld(), 5, 0).World, 5}, {impl.CrashWorld(longWorld(), 5, 1).World, 6}} {
		if got := impl.CommittedIn(x.w); got != (impl.IntResult{Value: x.want}) {
			t.Errorf("CommittedIn = %+v, want %d", got, x.want)
		}
	}
}

// A message is lost from its place alone, even where it is there twice, and may be sent again.
func TestLossesOfWorlds(t *testing.T) {
	for _, w := range []impl.World{longWorld(), fullWorld()} {
		for at := range w.Msgs {
			want := eventOf(w)
			want.Msgs = withoutPlace(want.Msgs, int64(at))
			wantMoved(t, "LoseWorld", impl.LoseWorld(w, int64(at)), want)
		}
	}
	twice := withMsgs(longWorld(), []impl.Msg{ackOf(7, 5, 2, 5), ackOf(7, 2, 4, 4), ackOf(7, 5, 2, 5)})
	for at, left := range [][]impl.Msg{{twice.Msgs[1], twice.Msgs[2]}, {twice.Msgs[0], twice.Msgs[2]}, {twice.Msgs[0], twice.Msgs[1]}} {
		wantMoved(t, "LoseWorld of what is there twice", impl.LoseWorld(twice, int64(at)), withMsgs(eventOf(twice), left))
	}
	sent := impl.SendWorld(grownWorld(2, fullWrites(2)), 1, 1).World
	lost := impl.LoseWorld(sent, 0).World
	wantWorldCode(t, "HearWorld of what was lost", impl.HearWorld(lost, 0), impl.ErrRange)
	again := impl.SendWorld(lost, 1, 1)
	wantMoved(t, "SendWorld again", again, eventsOf(sent, 2))
	wantMoved(t, "HearWorld of what was sent again", impl.HearWorld(again.World, 0), shouldHear(again.World, 0).World)
	for len(lost.Msgs) > 0 {
		lost = impl.LoseWorld(lost, 0).World
	}
	wantWorldCode(t, "LoseWorld where there are none", impl.LoseWorld(lost, 0), impl.ErrRange)
}

// Events go up to 9999: one below it there is one more, also of a tick of 0, and at it none.
func TestEventsOfTheMasterEnd(t *testing.T) {
	w := lateWorld()
	w.Events = 9998
	last := map[string]func(impl.World) impl.WorldResult{
		"TickWorld":       func(w impl.World) impl.WorldResult { return impl.TickWorld(w, 1) },
		"TickWorld, none": func(w impl.World) impl.WorldResult { return impl.TickWorld(w, 0) },
		"BeatWorld":       func(w impl.World) impl.WorldResult { return impl.BeatWorld(w, 2) },
		"RemoveWorld":     func(w impl.World) impl.WorldResult { return impl.RemoveWorld(w, 4) },
		"JoinWorld":       func(w impl.World) impl.WorldResult { return impl.JoinWorld(w, 1) },
		"LoseWorld":       func(w impl.World) impl.WorldResult { return impl.LoseWorld(w, 7) },
	}
	for what, turn := range last {
		got := turn(w)
		if got.Code != impl.OK || got.World.Events != 9999 || got.Moved != (what != "TickWorld, none") || impl.WorldFault(got.World) != impl.OK {
			t.Errorf("%s, of the last event: %+v", what, got)
		}
		for again, turn := range last {
			wantWorldCode(t, again+" behind the last event", turn(got.World), impl.ErrMany)
		}
	}
}

// All steps and turns in any order, each held against what it should be; and each kind of answer is met.
func TestMastersOfManyTurns(t *testing.T) {
	from := rand.New(rand.NewSource(64))
	met := map[string]int{}
	for round := range int64(60) {
		w := impl.NewWorld(1 + round%5).World
		for range 200 {
			what, got, want := someMove(from, w)
			wantStep(t, what, got, want)
			met[what+string(rune('0'+got.Code))]++
			if got.Moved {
				met[what+" moved"]++
			}
			if got.Code == impl.OK {
				w = got.World
			}
		}
	}
	for _, what := range []string{"TickWorld moved", "TickWorld0", "TickWorld3", "BeatWorld moved", "BeatWorld4", "BeatWorld:", "RemoveWorld moved", "RemoveWorld4", "RemoveWorld8", "RemoveWorld9", "JoinWorld moved", "JoinWorld4", "JoinWorld6", "JoinWorld:", "LoseWorld moved", "LoseWorld3"} {
		if met[what] < 3 {
			t.Errorf("%s was met %d times", what, met[what])
		}
	}
	if met["TickWorld0"] <= met["TickWorld moved"] {
		t.Error("no tick of 0 was met")
	}
}

// P1: what is asked again is answered again.
func TestMastersAnswerAgain(t *testing.T) {
	w := lateWorld()
	for range 3 {
		wantStep(t, "TickWorld", impl.TickWorld(w, 7), shouldTick(w, 7))
		wantStep(t, "BeatWorld", impl.BeatWorld(w, 5), shouldBeat(w, 5))
		wantStep(t, "RemoveWorld", impl.RemoveWorld(w, 2), shouldRemove(w, 2))
		wantStep(t, "JoinWorld", impl.JoinWorld(w, 1), shouldJoin(w, 1))
		wantStep(t, "LoseWorld", impl.LoseWorld(w, 3), shouldLose(w, 3))
		wantCommitted(t, "CommittedIn", w)
	}
}
