package tests

import (
	"math/rand"
	"slices"
	"testing"

	"loop.example/g00357/impl"
)

// What each read, each search and each write that is told to be over should answer, worked out apart from the program.

func alikeAnswer(a, b impl.AnswerResult) bool {
	return a.Code == b.Code && a.At == b.At && slices.Equal(a.Vec, b.Vec) && slices.Equal(a.Hits, b.Hits) && alikeWorld(a.World, b.World)
}

// wantAnswer holds a whole answer against what it should be; a world that is told has no fault.
func wantAnswer(t *testing.T, what string, got, want impl.AnswerResult) {
	t.Helper()
	if !alikeAnswer(got, want) {
		t.Fatalf("%s:\n%+v, want\n%+v", what, got, want)
	}
	if code := impl.WorldFault(got.World); got.Code == impl.OK && code != impl.OK {
		t.Fatalf("%s: %+v has the fault %d", what, got.World, code)
	}
}

func wantAnswerCode(t *testing.T, what string, got impl.AnswerResult, code int64) {
	t.Helper()
	wantAnswer(t, what, got, impl.AnswerResult{Code: code})
}

// itemsBy is the table of writes, as a list with a place for each Id.
func itemsBy(writes []impl.Write) []impl.Item {
	var p places
	for _, w := range writes {
		p.apply(w)
	}
	return p.items()
}

// vecBy is what the writes leave of id; nil where there is nothing.
func vecBy(writes []impl.Write, id int64) []int64 {
	for _, item := range itemsBy(writes) {
		if item.Id == id {
			return item.Vec
		}
	}
	return nil
}

// hitsBy are the nearest ones that the writes leave.
func hitsBy(writes []impl.Write, query []int64, k int64) []impl.Hit {
	var all []impl.Hit
	for _, item := range itemsBy(writes) {
		all = append(all, impl.Hit{Id: item.Id, Score: distance(query, item.Vec)})
	}
	return bestHits(all, k)
}

func shouldMay(w impl.World, node int64) int64 {
	switch {
	case node < 1 || node > int64(len(w.Nodes)):
		return impl.ErrNone
	case !memberOf(w, node):
		return impl.ErrDown
	case w.Nodes[node-1].Lease < w.Now:
		return impl.ErrLease
	}
	return impl.OK
}

// aheadOfAnswer are the codes ahead of what is asked for.
func aheadOfAnswer(w impl.World, node int64) int64 {
	if w.Events == 9999 || len(w.History) == 60 {
		return impl.ErrMany
	}
	return shouldMay(w, node)
}

// answersBy are the writes from which a node answers what is dirty or not; false, where it may not.
func answersBy(w impl.World, node int64, dirty bool) ([]impl.Write, bool) {
	n, sure := w.Nodes[node-1], committedOf(w)
	switch {
	case len(n.Writes) < len(sure):
		return nil, false
	case node == lastId(w):
		return sure, true
	case !dirty:
		return n.Writes[:n.Clean], true
	default:
		return n.Writes[:len(sure)], memberOf(w, lastId(w))
	}
}

// dirtyIn asks the writes that n does not know to be at the tail, one by one.
func dirtyIn(n impl.Node, id int64) bool {
	for at, w := range n.Writes {
		if int64(at) >= n.Clean && w.Id == id {
			return true
		}
	}
	return false
}

// toldIn is an answer and its entry, in a world behind an event.
func toldIn(w impl.World, e impl.Entry) impl.AnswerResult {
	next := eventOf(w)
	e.Start, e.End, e.At = next.Events, next.Events, int64(len(committedOf(w)))
	next.History = append(next.History, e)
	return impl.AnswerResult{At: e.At, Vec: e.Vec, Hits: e.Hits, World: next}
}

func shouldRead(w impl.World, node, id int64) impl.AnswerResult {
	if code := aheadOfAnswer(w, node); code != impl.OK {
		return impl.AnswerResult{Code: code}
	}
	if id < 1 || id > 999 {
		return impl.AnswerResult{Code: impl.ErrRange}
	}
	by, may := answersBy(w, node, dirtyIn(w.Nodes[node-1], id))
	if !may {
		return impl.AnswerResult{Code: impl.ErrState}
	}
	return toldIn(w, impl.Entry{Kind: 2, Id: id, Vec: vecBy(by, id)})
}

// shouldFind is asked with queries that have no fault alone.
func shouldFind(w impl.World, node int64, query []int64, k int64) impl.AnswerResult {
	if code := aheadOfAnswer(w, node); code != impl.OK {
		return impl.AnswerResult{Code: code}
	}
	if k < 0 || k > 20 {
		return impl.AnswerResult{Code: impl.ErrRange}
	}
	n := w.Nodes[node-1]
	by, may := answersBy(w, node, int64(len(n.Writes)) > n.Clean)
	if !may {
		return impl.AnswerResult{Code: impl.ErrState}
	}
	return toldIn(w, impl.Entry{Kind: 3, Query: query, K: k, Hits: hitsBy(by, query, k)})
}

// notedAt is the place of the first entry of a write of this session and number; -1 where there is none.
func notedAt(w impl.World, session, seq int64) int {
	for place, e := range w.History {
		if e.Kind == 1 && e.Session == session && e.Seq == seq {
			return place
		}
	}
	return -1
}

func shouldFinish(w impl.World, session, seq int64) impl.WorldResult {
	if code := aheadOf(w); code != impl.OK {
		return codeAlone(code)
	}
	place := notedAt(w, session, seq)
	switch {
	case place < 0:
		return codeAlone(impl.ErrNone)
	case w.History[place].End > 0:
		return codeAlone(impl.ErrTaken)
	case seenOf(committedOf(w), session, seq) == 0:
		return codeAlone(impl.ErrState)
	}
	next := eventOf(w)
	next.History[place].End, next.History[place].At = next.Events, seenOf(committedOf(w), session, seq)
	return movedTo(next)
}

// someQuery is near to where writes put their items.
func someQuery(from *rand.Rand) []int64 {
	return []int64{from.Int63n(21) - 10, from.Int63n(21) - 10, from.Int63n(21) - 10}
}

// someTicket is most often one that was asked for.
func someTicket(from *rand.Rand, w impl.World) (session, seq int64) {
	if len(w.History) > 0 && from.Intn(5) > 0 {
		e := w.History[from.Intn(len(w.History))]
		return e.Session, e.Seq
	}
	return from.Int63n(4), from.Int63n(6)
}

// someAnswer is a read or a search that from picks: what it is, what the program answers to it, and what it should.
func someAnswer(from *rand.Rand, w impl.World) (what string, got, want impl.AnswerResult) {
	node := someId(from, w)
	if from.Intn(2) == 0 {
		query, k := someQuery(from), from.Int63n(23)-1
		return "FindWorld", impl.FindWorld(w, node, query, k), shouldFind(w, node, query, k)
	}
	id := from.Int63n(11)
	return "ReadWorld", impl.ReadWorld(w, node, id), shouldRead(w, node, id)
}

func someFinish(from *rand.Rand, w impl.World) (what string, got, want impl.WorldResult) {
	session, seq := someTicket(from, w)
	return "FinishWorld", impl.FinishWorld(w, session, seq), shouldFinish(w, session, seq)
}

// deedOf is what was done with a world: its name, its code, and the world behind it (the one that was, where there is a code).
type deed struct {
	what string
	code int64
	w    impl.World
}

// someDeed is a move, a read, a search, or a write that is told to be over, held against what it should be.
func someDeed(t *testing.T, from *rand.Rand, w impl.World) deed {
	t.Helper()
	if from.Intn(6) == 0 {
		what, got, want := someAnswer(from, w)
		wantAnswer(t, what, got, want)
		if got.Code != impl.OK {
			return deed{what, got.Code, w}
		}
		return deed{what, got.Code, got.World}
	}
	what, got, want := someMove(from, w)
	if from.Intn(6) == 0 {
		what, got, want = someFinish(from, w)
	}
	wantStep(t, what, got, want)
	if got.Code != impl.OK {
		return deed{what, got.Code, w}
	}
	return deed{what, got.Code, got.World}
}

// carried is w when one is sure of all that it has, and the next one has one write more of it, where that can be.
func carried(from *rand.Rand, w impl.World) impl.World {
	id := 1 + from.Int63n(int64(len(w.Nodes)))
	next := besideOf(w, id, 1)
	if next == 0 || !memberOf(w, id) || !memberOf(w, next) || len(w.Msgs) > 38 {
		return w
	}
	w = impl.SyncWorld(w, id).World
	if len(w.Nodes[next-1].Writes) < len(w.Nodes[id-1].Writes) {
		w = passedOn(w, id, int64(len(w.Nodes[next-1].Writes))+1)
	}
	if from.Intn(2) == 0 {
		w = impl.AckWorld(w, next).World
		w = impl.HearWorld(w, int64(len(w.Msgs))-1).World
	}
	return w
}

// toldWorlds are such as come of at most 90 steps, with answers among them; the same ones at each run.
func toldWorlds(t *testing.T) []impl.World {
	t.Helper()
	from := rand.New(rand.NewSource(71))
	var list []impl.World
	for round := range int64(80) {
		w := impl.NewWorld(1 + round%5).World
		for i := 0; w.Events <= 83; i++ {
			w = someDeed(t, from, w).w
			if from.Intn(4) == 0 {
				w = carried(from, w)
			}
			if i%11 == 10 {
				list = append(list, w)
			}
		}
		list = append(list, w)
	}
	return list
}

// bentOf is w with other Sure, Clean and Lease than steps leave, but without a fault.
func bentOf(from *rand.Rand, w impl.World) impl.World {
	w = cloneWorld(w)
	for i, n := range w.Nodes {
		if n.Up {
			n.Sure = from.Int63n(int64(len(n.Writes)) + 1)
			n.Clean = from.Int63n(n.Sure + 1)
			n.Lease = max(0, w.Now-1+from.Int63n(4))
			w.Nodes[i] = n
		}
	}
	return w
}

// bentWorlds are such as no steps lead to: members that have fewer writes than the tail, or know more to be there than is.
func bentWorlds() []impl.World {
	from := rand.New(rand.NewSource(72))
	var list []impl.World
	for _, w := range ledWorlds() {
		list = append(list, bentOf(from, w))
	}
	return list
}
