package tests

import (
	"math/rand"
	"slices"
	"testing"

	"loop.example/g00357/impl"
)

// What a world is when it is drained, and whether it is one story, worked out apart from the program.

// takesOver is what one has behind a turn of the one ahead of it, and whether that is more.
func takesOver(ahead, n impl.Node) (impl.Node, bool) {
	if int64(len(n.Writes)) >= ahead.Sure {
		return n, false
	}
	once := onceOf(n.Writes, ahead.Writes[len(n.Writes)])
	if once.Code != impl.OK || !once.New {
		return n, false
	}
	n.Writes = cloneWrites(once.Writes)
	return n, true
}

// drainedDown is one round from the head on.
func drainedDown(w *impl.World) bool {
	turned := false
	for _, id := range w.Chain.Ids {
		n, next := &w.Nodes[id-1], besideOf(*w, id, 1)
		if !memberOf(*w, id) {
			continue
		}
		turned = turned || n.Sure < int64(len(n.Writes))
		n.Sure = int64(len(n.Writes))
		if memberOf(*w, next) {
			behind, more := takesOver(*n, w.Nodes[next-1])
			w.Nodes[next-1] = behind
			turned = turned || more
		}
	}
	return turned
}

// drainedUp is one round from the tail on.
func drainedUp(w *impl.World) bool {
	turned := false
	for place := len(w.Chain.Ids) - 1; place >= 0; place-- {
		id := w.Chain.Ids[place]
		n, next := &w.Nodes[id-1], besideOf(*w, id, 1)
		was := n.Clean
		switch {
		case !memberOf(*w, id):
		case next == 0:
			n.Clean = n.Sure
		case memberOf(*w, next):
			n.Clean = max(n.Clean, min(n.Sure, w.Nodes[next-1].Clean))
		}
		turned = turned || n.Clean != was
	}
	return turned
}

func shouldDrain(w impl.World) impl.WorldResult {
	w = cloneWorld(w)
	w.Msgs = nil
	moved := false
	for again := true; again; moved = moved || again {
		down := drainedDown(&w)
		again = drainedUp(&w) || down
	}
	return impl.WorldResult{Moved: moved, World: w}
}

// wholeNode has all of these, and knows them to be at the tail.
func wholeNode(n impl.Node, writes []impl.Write) impl.Node {
	n.Writes, n.Sure, n.Clean = cloneWrites(writes), int64(len(writes)), int64(len(writes))
	return n
}

// shouldChain goes through all writes one by one.
func shouldChain(w impl.World) bool {
	for place, id := range w.Chain.Ids {
		n := w.Nodes[id-1]
		if n.Clean > int64(len(committedOf(w))) {
			return false
		}
		for at, x := range n.Writes {
			if place == 0 {
				continue
			}
			ahead := w.Nodes[w.Chain.Ids[place-1]-1]
			if int64(at) >= ahead.Sure || !alike(x, ahead.Writes[at]) {
				return false
			}
		}
	}
	return true
}

func shouldIndex(w impl.World, session, seq int64) impl.IntResult {
	at := seenOf(committedOf(w), session, seq)
	if at == 0 {
		return impl.IntResult{Code: impl.ErrNone}
	}
	return impl.IntResult{Value: at}
}

func shouldOver(w impl.World) impl.IntResult {
	over := slices.DeleteFunc(cloneHistory(w.History), func(e impl.Entry) bool { return e.End == 0 })
	return impl.IntResult{Value: int64(len(over))}
}

func shouldKept(w impl.World) bool {
	for _, e := range w.History {
		if e.Kind == 1 && e.End > 0 && e.At != seenOf(committedOf(w), e.Session, e.Seq) {
			return false
		}
	}
	return true
}

// saidOf is an entry of no write as the first at writes at the tail have it. Of what may not be asked for there is nothing.
func saidOf(w impl.World, e impl.Entry) impl.Entry {
	by := committedOf(w)[:e.At]
	if e.Kind == 2 {
		e.Vec = vecBy(by, e.Id)
		return e
	}
	e.Hits = nil
	if impl.VecFault(e.Query) == impl.OK && e.K >= 0 && e.K <= 20 {
		e.Hits = hitsBy(by, e.Query, e.K)
	}
	return e
}

func shouldTell(w impl.World, e impl.Entry) bool {
	return e.Kind == 1 || e.At <= int64(len(committedOf(w))) && alikeEntry(e, saidOf(w, e))
}

// shouldFollow: where the former was over ahead of the latter it tells of no more writes, and of fewer where that is a write.
func shouldFollow(w impl.World, former, latter impl.Entry) bool {
	if former.End == 0 || latter.Start <= former.End {
		return true
	}
	if latter.Kind != 1 {
		return former.At <= latter.At
	}
	if latter.End > 0 {
		return former.At < latter.At
	}
	at := seenOf(committedOf(w), latter.Session, latter.Seq)
	return at == 0 || former.At < at
}

func shouldLinear(w impl.World) bool {
	for _, e := range w.History {
		if !shouldTell(w, e) {
			return false
		}
		for _, other := range w.History {
			if !shouldFollow(w, e, other) {
				return false
			}
		}
	}
	return shouldKept(w)
}

// wantAudit asks all of a world whether it is one story.
func wantAudit(t *testing.T, what string, w impl.World, chain, kept, linear bool) {
	t.Helper()
	if got := impl.ChainRight(w); got != chain {
		t.Fatalf("%s: ChainRight(%+v) = %v", what, w, got)
	}
	if got := impl.KeptRight(w); got != kept {
		t.Fatalf("%s: KeptRight(%+v) = %v", what, w, got)
	}
	if got := impl.LinearRight(w); got != linear {
		t.Fatalf("%s: LinearRight(%+v) = %v", what, w, got)
	}
}

// wantAudited holds all that is told of a world against what it should be.
func wantAudited(t *testing.T, what string, w impl.World) {
	t.Helper()
	wantAudit(t, what, w, shouldChain(w), shouldKept(w), shouldLinear(w))
	if got := impl.OverIn(w); got != shouldOver(w) {
		t.Fatalf("%s: OverIn(%+v) = %+v", what, w, got)
	}
	tickets := [][2]int64{{1, 1}, {2, 999}, {0, 1}}
	for _, e := range w.History {
		tickets = append(tickets, [2]int64{e.Session, e.Seq})
	}
	for _, n := range w.Nodes {
		for _, x := range n.Writes {
			tickets = append(tickets, [2]int64{x.Session, x.Seq})
		}
	}
	for _, x := range tickets {
		if got := impl.IndexIn(w, x[0], x[1]); got != shouldIndex(w, x[0], x[1]) {
			t.Fatalf("%s: IndexIn(%+v, %d, %d) = %+v", what, w, x[0], x[1], got)
		}
	}
}

// auditedWorld is storyWorld with entries of all kinds that are one story: of 4 writes at the tail 3 are over, the other one is not, and so are not two that are not there.
func auditedWorld() impl.World {
	w := storyWorld()
	w.History = []impl.Entry{
		{Kind: 1, Session: 1, Seq: 1, Id: 5, Start: 1, End: 10, At: 1},
		{Kind: 1, Session: 2, Seq: 1, Id: 6, Start: 2, End: 12, At: 2},
		{Kind: 2, Id: 5, Start: 11, End: 11, At: 1, Vec: []int64{1, 0, 0}},
		{Kind: 2, Id: 9, Start: 13, End: 13, At: 2},
		{Kind: 1, Session: 1, Seq: 2, Id: 7, Start: 14, End: 20, At: 3},
		{Kind: 3, Query: []int64{0, 0, 0}, K: 2, Start: 15, End: 16, At: 2, Hits: []impl.Hit{{Id: 5, Score: 1}, {Id: 6, Score: 4}}},
		{Kind: 1, Session: 1, Seq: 3, Id: 5, Start: 21},
		{Kind: 1, Session: 2, Seq: 2, Id: 5, Start: 22},
		{Kind: 3, Query: []int64{1, 1, 1}, Start: 23, End: 23, At: 3},
		{Kind: 2, Id: 5, Start: 30, End: 30, At: 4},
		{Kind: 1, Session: 1, Seq: 4, Id: 6, Start: 31},
	}
	return w
}

// withEntry is w with one entry more.
func withEntry(w impl.World, e impl.Entry) impl.World {
	w = cloneWorld(w)
	w.History = append(w.History, e)
	return w
}

// otherNumber is most often one beside n.
func otherNumber(from *rand.Rand, n, most int64) int64 {
	if from.Intn(3) == 0 {
		return from.Int63n(most + 1)
	}
	return min(most, max(0, n-1+2*from.Int63n(2)))
}

// bendEntry changes one thing of an entry, so that it stays one.
func bendEntry(from *rand.Rand, e *impl.Entry, events int64) {
	switch from.Intn(7) {
	case 0:
		e.At = otherNumber(from, e.At, 8)
	case 1:
		e.Start = max(1, otherNumber(from, e.Start, events))
		e.End = max(e.Start, e.End)
	case 2:
		e.End = max(e.Start, otherNumber(from, e.End, events))
	case 3:
		e.End = 0
	case 4:
		e.Id, e.K = max(1, otherNumber(from, e.Id, 9)), otherNumber(from, e.K, 20)
	case 5:
		e.Session, e.Seq = max(1, otherNumber(from, e.Session, 3)), max(1, otherNumber(from, e.Seq, 6))
	case 6:
		e.Vec, e.Hits = nil, nil
	}
}

// bendNode changes what one has, knows to be sure, or to be clean, so that it stays a node.
func bendNode(from *rand.Rand, n *impl.Node) {
	switch count := int64(len(n.Writes)); from.Intn(4) {
	case 0:
		if count > 0 {
			n.Writes[from.Int63n(count)].Id = 9
		}
	case 1:
		n.Writes = n.Writes[:otherNumber(from, count, count)]
		n.Sure = min(n.Sure, int64(len(n.Writes)))
		n.Clean = min(n.Clean, n.Sure)
	case 2:
		if n.Up {
			n.Clean = otherNumber(from, n.Clean, n.Sure)
		}
	case 3:
		if n.Up {
			n.Sure = max(n.Clean, otherNumber(from, n.Sure, count))
		}
	}
	if !n.Up {
		n.Sure = int64(len(n.Writes))
	}
}

// bentStory is w with one or two things changed, in what was answered or in what one has.
func bentStory(from *rand.Rand, w impl.World) impl.World {
	w = cloneWorld(w)
	for range 1 + from.Intn(2) {
		if from.Intn(4) > 0 && len(w.History) > 0 {
			bendEntry(from, &w.History[from.Intn(len(w.History))], w.Events)
		} else {
			bendNode(from, &w.Nodes[from.Intn(len(w.Nodes))])
		}
	}
	return w
}
