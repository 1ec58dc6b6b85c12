package tests

import (
	"math/rand"
	"slices"
	"testing"

	"loop.example/g00357/impl"
)

// What each step of a world should answer, worked out apart from the program, and worlds as they come of many steps.

// alikeEntry asks each field by itself; no list and one without anything in it are the same.
func alikeEntry(a, b impl.Entry) bool {
	return a.Kind == b.Kind && a.Session == b.Session && a.Seq == b.Seq && a.Id == b.Id && a.K == b.K && a.Start == b.Start && a.End == b.End && a.At == b.At && slices.Equal(a.Query, b.Query) && slices.Equal(a.Vec, b.Vec) && slices.Equal(a.Hits, b.Hits)
}

func alikeWorld(a, b impl.World) bool {
	return a.Now == b.Now && a.Events == b.Events && alikeChain(a.Chain, b.Chain) && slices.EqualFunc(a.Nodes, b.Nodes, alikeNode) && alikeMsgs(a.Msgs, b.Msgs) && slices.EqualFunc(a.History, b.History, alikeEntry)
}

func alikeStep(a, b impl.WorldResult) bool {
	return a.Code == b.Code && a.Moved == b.Moved && alikeWorld(a.World, b.World)
}

// wantStep holds a whole answer against what it should be; a world that is told has no fault.
func wantStep(t *testing.T, what string, got, want impl.WorldResult) {
	t.Helper()
	if !alikeStep(got, want) {
		t.Fatalf("%s:\n%+v, want\n%+v", what, got, want)
	}
	if code := impl.WorldFault(got.World); got.Code == impl.OK && code != impl.OK {
		t.Fatalf("%s: %+v has the fault %d", what, got.World, code)
	}
}

func wantMoved(t *testing.T, what string, got impl.WorldResult, want impl.World) {
	t.Helper()
	wantStep(t, what, got, impl.WorldResult{Moved: true, World: want})
}

// wantStill is a step that has no code and moves nothing.
func wantStill(t *testing.T, what string, got impl.WorldResult, want impl.World) {
	t.Helper()
	wantStep(t, what, got, impl.WorldResult{World: want})
}

func wantWorldCode(t *testing.T, what string, got impl.WorldResult, code int64) {
	t.Helper()
	wantStep(t, what, got, impl.WorldResult{Code: code})
}

func cloneHistory(history []impl.Entry) []impl.Entry {
	var list []impl.Entry
	for _, e := range history {
		e.Query, e.Vec, e.Hits = slices.Clone(e.Query), slices.Clone(e.Vec), slices.Clone(e.Hits)
		list = append(list, e)
	}
	return list
}

func cloneWorld(w impl.World) impl.World {
	w.Chain.Ids = slices.Clone(w.Chain.Ids)
	w.Nodes = slices.Clone(w.Nodes)
	for i := range w.Nodes {
		w.Nodes[i] = cloneNode(w.Nodes[i])
	}
	w.Msgs, w.History = cloneMsgs(w.Msgs), cloneHistory(w.History)
	return w
}

// eventOf is w with one event more, of memory of its own.
func eventOf(w impl.World) impl.World {
	w = cloneWorld(w)
	w.Events++
	return w
}

// eventsOf is w with n events more.
func eventsOf(w impl.World, n int64) impl.World {
	w = cloneWorld(w)
	w.Events += n
	return w
}

// withNode is w with another node in the place of the one that has its Id.
func withNode(w impl.World, n impl.Node) impl.World {
	w = cloneWorld(w)
	w.Nodes[n.Id-1] = n
	return w
}

func nodeIn(w impl.World, id int64) impl.Node {
	return cloneNode(w.Nodes[id-1])
}

// memberOf goes through the chain by itself.
func memberOf(w impl.World, id int64) bool {
	for _, one := range w.Chain.Ids {
		if one == id {
			return w.Nodes[id-1].Up && w.Nodes[id-1].Epoch == w.Chain.Epoch
		}
	}
	return false
}

// besideOf is 0 where there is nobody.
func besideOf(w impl.World, id int64, step int) int64 {
	for place, one := range w.Chain.Ids {
		if beside := place + step; one == id && beside >= 0 && beside < len(w.Chain.Ids) {
			return w.Chain.Ids[beside]
		}
	}
	return 0
}

func lastId(w impl.World) int64 {
	return w.Chain.Ids[len(w.Chain.Ids)-1]
}

func codeAlone(code int64) impl.WorldResult {
	return impl.WorldResult{Code: code}
}

func movedTo(w impl.World) impl.WorldResult {
	return impl.WorldResult{Moved: true, World: w}
}

// aheadOf are the codes ahead of those of a step: of an id, where one is told, and of the events.
func aheadOf(w impl.World, ids ...int64) int64 {
	for _, id := range ids {
		if id < 1 || id > int64(len(w.Nodes)) {
			return impl.ErrNone
		}
	}
	if w.Events == 9999 {
		return impl.ErrMany
	}
	return impl.OK
}

// notedIn are the entries of writes that have this session and number.
func notedIn(w impl.World, session, seq int64) []impl.Entry {
	var list []impl.Entry
	for _, e := range w.History {
		if e.Kind == 1 && e.Session == session && e.Seq == seq {
			list = append(list, e)
		}
	}
	return list
}

// shouldAsk is asked with writes that have no fault alone.
func shouldAsk(w impl.World, x impl.Write) impl.WorldResult {
	if code := aheadOf(w); code != impl.OK {
		return codeAlone(code)
	}
	head := w.Chain.Ids[0]
	if !memberOf(w, head) {
		return codeAlone(impl.ErrDown)
	}
	n := nodeIn(w, head)
	once := onceOf(n.Writes, x)
	if once.Code != impl.OK {
		return codeAlone(once.Code)
	}
	if len(once.Writes) > 40 {
		return codeAlone(impl.ErrMany)
	}
	n.Writes = once.Writes
	next := eventOf(withNode(w, n))
	if len(notedIn(w, x.Session, x.Seq)) > 0 {
		return movedTo(next)
	}
	if len(w.History) == 60 {
		return codeAlone(impl.ErrMany)
	}
	next.History = append(next.History, impl.Entry{Kind: 1, Session: x.Session, Seq: x.Seq, Id: x.Id, Start: w.Events + 1})
	return movedTo(next)
}

// shouldPost is a world behind an event, with m under way.
func shouldPost(w impl.World, m impl.Msg) impl.WorldResult {
	next := eventOf(w)
	next.Msgs = sentTo(next.Msgs, m)
	if len(next.Msgs) > 40 {
		return codeAlone(impl.ErrMany)
	}
	return movedTo(next)
}

func shouldSend(w impl.World, id, index int64) impl.WorldResult {
	if code := aheadOf(w, id); code != impl.OK {
		return codeAlone(code)
	}
	switch n := nodeIn(w, id); {
	case !memberOf(w, id):
		return codeAlone(impl.ErrDown)
	case id == lastId(w):
		return codeAlone(impl.ErrState)
	case index < 1 || index > n.Sure:
		return codeAlone(impl.ErrRange)
	default:
		return shouldPost(w, forwardOf(w.Chain.Epoch, id, besideOf(w, id, 1), index, n.Writes[index-1]))
	}
}

func shouldAck(w impl.World, id int64) impl.WorldResult {
	if code := aheadOf(w, id); code != impl.OK {
		return codeAlone(code)
	}
	switch n := nodeIn(w, id); {
	case !memberOf(w, id):
		return codeAlone(impl.ErrDown)
	case id == w.Chain.Ids[0]:
		return codeAlone(impl.ErrState)
	case id == lastId(w):
		return shouldPost(w, ackOf(w.Chain.Epoch, id, besideOf(w, id, -1), n.Sure))
	default:
		return shouldPost(w, ackOf(w.Chain.Epoch, id, besideOf(w, id, -1), n.Clean))
	}
}

// heardBy is what n is behind a message, and whether it takes it.
func heardBy(w impl.World, n impl.Node, m impl.Msg) (impl.Node, bool) {
	switch {
	case m.Kind == 2 && m.From == besideOf(w, m.To, 1):
		n.Clean = max(n.Clean, min(m.Index, n.Sure))
		return n, true
	case m.Kind == 1 && m.From == besideOf(w, m.To, -1) && m.Index == int64(len(n.Writes))+1 && seenOf(n.Writes, m.Write.Session, m.Write.Seq) == 0 && m.Write.Seq > lastOf(n.Writes, m.Write.Session):
		n.Writes = append(n.Writes, m.Write)
		return n, true
	}
	return n, false
}

func shouldHear(w impl.World, at int64) impl.WorldResult {
	if code := aheadOf(w); code != impl.OK {
		return codeAlone(code)
	}
	if at < 0 || at >= int64(len(w.Msgs)) {
		return codeAlone(impl.ErrRange)
	}
	m := w.Msgs[at]
	if m.Epoch != w.Chain.Epoch || !memberOf(w, m.To) {
		return impl.WorldResult{World: eventOf(w)}
	}
	n, moved := heardBy(w, nodeIn(w, m.To), m)
	return impl.WorldResult{Moved: moved, World: eventOf(withNode(w, n))}
}

func shouldSync(w impl.World, id int64) impl.WorldResult {
	if code := aheadOf(w, id); code != impl.OK {
		return codeAlone(code)
	}
	n := nodeIn(w, id)
	if !n.Up {
		return codeAlone(impl.ErrDown)
	}
	return movedTo(eventOf(withNode(w, syncedOf(n))))
}

func shouldCrash(w impl.World, id, kept int64) impl.WorldResult {
	if code := aheadOf(w, id); code != impl.OK {
		return codeAlone(code)
	}
	n := nodeIn(w, id)
	if !n.Up {
		return codeAlone(impl.ErrDown)
	}
	if kept < 0 || n.Sure+kept > int64(len(n.Writes)) {
		return codeAlone(impl.ErrRange)
	}
	return movedTo(eventOf(withNode(w, crashedOf(n, n.Sure+kept))))
}

func shouldStart(w impl.World, id int64) impl.WorldResult {
	if code := aheadOf(w, id); code != impl.OK {
		return codeAlone(code)
	}
	n := nodeIn(w, id)
	if n.Up {
		return codeAlone(impl.ErrState)
	}
	n.Up = true
	if slices.Contains(w.Chain.Ids, id) {
		n.Epoch = w.Chain.Epoch
	}
	return movedTo(eventOf(withNode(w, n)))
}

// toldEpoch lets all that are Up and in the chain know its Epoch.
func toldEpoch(w impl.World) impl.World {
	for _, id := range w.Chain.Ids {
		if w.Nodes[id-1].Up {
			w.Nodes[id-1].Epoch = w.Chain.Epoch
		}
	}
	return w
}

// cutBy is w behind a cut, made by hand: who is cut is told nothing.
func cutBy(w impl.World, id int64) impl.World {
	w = cloneWorld(w)
	w.Chain = chainOf(w.Chain.Epoch+1, withoutId(w.Chain.Ids, id)...)
	return toldEpoch(w)
}

// joinedBy is w behind a join, made by hand: who joins has what is sure at the tail.
func joinedBy(w impl.World, id int64) impl.World {
	w = cloneWorld(w)
	tail := w.Nodes[lastId(w)-1]
	n := impl.Node{Id: id, Up: true, Writes: cloneWrites(tail.Writes[:tail.Sure]), Sure: tail.Sure, Clean: tail.Sure}
	w.Chain = chainOf(w.Chain.Epoch+1, withId(w.Chain.Ids, id)...)
	return toldEpoch(withNode(w, n))
}

// turnedBy is w behind what is no step of this chapter: a message lost, a lease given, a node cut or joined.
func turnedBy(from *rand.Rand, w impl.World) impl.World {
	id := 1 + from.Int63n(int64(len(w.Nodes)))
	isThere := slices.Contains(w.Chain.Ids, id)
	switch pick := from.Intn(6); {
	case pick < 3 && len(w.Msgs) > 0:
		w.Msgs = withoutPlace(w.Msgs, from.Int63n(int64(len(w.Msgs))))
	case pick == 3 && w.Nodes[id-1].Up:
		n := nodeIn(w, id)
		n.Lease = w.Now + 4
		w = withNode(w, n)
		w.Now++
	case pick > 3 && isThere && len(w.Chain.Ids) > 1:
		return cutBy(w, id)
	case pick > 3 && !isThere && w.Nodes[id-1].Up && memberOf(w, lastId(w)):
		return joinedBy(w, id)
	}
	return w
}

// someAsk is a write of few sessions, whose number is new, or was asked for already, or is old.
func someAsk(from *rand.Rand, w impl.World) impl.Write {
	x := someWrites(from, 1, 9)[0]
	x.Session = 1 + from.Int63n(3)
	last := int64(0)
	for _, n := range w.Nodes {
		last = max(last, lastOf(n.Writes, x.Session))
	}
	x.Seq = max(1, last-2+from.Int63n(5))
	return x
}

// someId is most often a node's, and may be just out of bounds.
func someId(from *rand.Rand, w impl.World) int64 {
	id := 1 + from.Int63n(int64(len(w.Nodes)))
	if from.Intn(40) == 0 {
		id = from.Int63n(2) * (int64(len(w.Nodes)) + 1)
	}
	return id
}

// someStep is a step that from picks: what it is, what the program answers to it, and what it should. The ids and places may be just out of bounds.
func someStep(from *rand.Rand, w impl.World) (what string, got, want impl.WorldResult) {
	id := someId(from, w)
	switch pick := from.Intn(24); {
	case pick < 4:
		x := someAsk(from, w)
		return "AskWorld", impl.AskWorld(w, x), shouldAsk(w, x)
	case pick < 9:
		index := 1 + from.Int63n(4)
		if 1 <= id && id < int64(len(w.Nodes)) && from.Intn(4) > 0 {
			index = int64(len(w.Nodes[id].Writes)) + from.Int63n(2)
		}
		return "SendWorld", impl.SendWorld(w, id, index), shouldSend(w, id, index)
	case pick < 12:
		return "AckWorld", impl.AckWorld(w, id), shouldAck(w, id)
	case pick < 18:
		at := int64(len(w.Msgs)) - from.Int63n(4)
		return "HearWorld", impl.HearWorld(w, at), shouldHear(w, at)
	case pick < 21:
		return "SyncWorld", impl.SyncWorld(w, id), shouldSync(w, id)
	case pick < 22:
		kept := from.Int63n(4) - 1
		return "CrashWorld", impl.CrashWorld(w, id, kept), shouldCrash(w, id, kept)
	default:
		return "StartWorld", impl.StartWorld(w, id), shouldStart(w, id)
	}
}

// longWorld has five nodes: 4, 2 and 5 are the chain; 1 was cut, is Up, and knows an older Epoch; 3 is down.
func longWorld() impl.World {
	writes := fullWrites(10)
	n := []impl.Node{
		{Id: 1, Up: true, Epoch: 5, Lease: 60, Writes: writes[:4], Sure: 3, Clean: 2},
		{Id: 2, Up: true, Epoch: 7, Lease: 80, Writes: writes[:7], Sure: 6, Clean: 4},
		{Id: 3, Epoch: 6, Writes: writes[:2], Sure: 2},
		{Id: 4, Up: true, Epoch: 7, Lease: 81, Writes: writes, Sure: 9, Clean: 3},
		{Id: 5, Up: true, Epoch: 7, Lease: 79, Writes: writes[:6], Sure: 5, Clean: 5},
	}
	msgs := []impl.Msg{
		forwardOf(7, 4, 2, 8, writes[7]), forwardOf(7, 2, 5, 7, writes[6]), ackOf(7, 5, 2, 5), ackOf(7, 2, 4, 4),
		forwardOf(6, 4, 2, 8, writes[7]), ackOf(6, 5, 2, 5), forwardOf(5, 1, 4, 11, dropOf(1, 1, 999)), ackOf(7, 5, 2, 0),
	}
	history := []impl.Entry{
		{Kind: 1, Session: 1, Seq: 1, Id: 1, Start: 3, End: 60, At: 1},
		{Kind: 2, Id: 1, Start: 77, End: 77, At: 1, Vec: []int64{0, 0, 0}},
		{Kind: 2, Id: 9, Start: 78, End: 78, At: 2},
		{Kind: 3, Query: []int64{1, 2, 3}, K: 2, Start: 79, End: 80, At: 2, Hits: []impl.Hit{{Id: 1, Score: 14}, {Id: 2, Score: 20}}},
		{Kind: 1, Session: 1, Seq: 10, Id: 10, Start: 400},
	}
	return cloneWorld(impl.World{Now: 77, Events: 500, Chain: chainOf(7, 4, 2, 5), Nodes: n, Msgs: msgs, History: history})
}

// fullHistory are n entries that were over long ago: writes of session 9, reads and searches by turns, the same ones at each run.
func fullHistory(n int64) []impl.Entry {
	var list []impl.Entry
	for i := range n {
		e := impl.Entry{Kind: 1 + i%3, Session: 9, Seq: 1 + i, Id: 1 + i, K: i % 21, Start: 1 + i, End: 2 + i, At: i % 41}
		if e.Kind == 2 {
			e.Vec = []int64{i, 0, -i}
		}
		if e.Kind == 3 {
			e.Query, e.Hits = []int64{0, i, 0}, []impl.Hit{{Id: 1 + i, Score: i}}
		}
		list = append(list, e)
	}
	return list
}

// fullWorld has all there may be: five nodes of 40 writes, 40 messages, 60 entries, and events but one.
func fullWorld() impl.World {
	w := impl.World{Now: 9000, Events: 9998, Chain: chainOf(999, 3, 1, 5, 2, 4), Msgs: fullMsgs(40), History: fullHistory(60)}
	for id := int64(1); id <= 5; id++ {
		w.Nodes = append(w.Nodes, impl.Node{Id: id, Up: true, Epoch: 999, Lease: 9999, Writes: fullWrites(40), Sure: 30 + id, Clean: 20 + id})
	}
	return w
}

// manyWorlds are new ones, and such as come of many steps; the same ones at each run.
func manyWorlds() []impl.World {
	from := rand.New(rand.NewSource(51))
	list := []impl.World{longWorld(), fullWorld()}
	for n := int64(1); n <= 5; n++ {
		list = append(list, impl.NewWorld(n).World)
		for range 10 {
			w := impl.NewWorld(n).World
			for i := range 160 {
				if from.Intn(15) == 0 {
					w = turnedBy(from, w)
				}
				if _, _, want := someStep(from, w); want.Code == impl.OK {
					w = want.World
				}
				if i%16 == 15 {
					list = append(list, w)
				}
			}
		}
	}
	return list
}
