package tests

import (
	"math/rand"
	"slices"
	"testing"

	"loop.example/g00357/impl"
)

// upNode is a node that is Up, with an Epoch and a Lease of its own, so that it is seen where they get lost.
func upNode(writes []impl.Write, sure, clean int64) impl.Node {
	return impl.Node{Id: 3, Up: true, Epoch: 7, Lease: 44, Writes: writes, Sure: sure, Clean: clean}
}

func downNode(writes []impl.Write) impl.Node {
	return impl.Node{Id: 3, Epoch: 7, Writes: writes, Sure: int64(len(writes))}
}

// alikeNode asks each field by itself; no writes and a list without any are the same.
func alikeNode(a, b impl.Node) bool {
	return a.Id == b.Id && a.Up == b.Up && a.Epoch == b.Epoch && a.Lease == b.Lease && a.Sure == b.Sure && a.Clean == b.Clean && slices.EqualFunc(a.Writes, b.Writes, alike)
}

func wantNode(t *testing.T, what string, got impl.NodeResult, at int64, want impl.Node) {
	t.Helper()
	if got.Code != impl.OK || got.At != at || !alikeNode(got.Node, want) {
		t.Fatalf("%s: %+v, want at %d %+v", what, got, at, want)
	}
	if code := impl.NodeFault(got.Node); code != impl.OK {
		t.Fatalf("%s: %+v has the fault %d", what, got.Node, code)
	}
}

// takenBy is n with one write more.
func takenBy(n impl.Node, w impl.Write) impl.Node {
	n.Writes = append(slices.Clone(n.Writes), w)
	return n
}

func syncedOf(n impl.Node) impl.Node {
	n.Sure = int64(len(n.Writes))
	return n
}

func cleanedOf(n impl.Node, clean int64) impl.Node {
	n.Clean = clean
	return n
}

// crashedOf is down, with the first writes alone.
func crashedOf(n impl.Node, left int64) impl.Node {
	n.Up, n.Lease, n.Clean, n.Sure, n.Writes = false, 0, 0, left, n.Writes[:left]
	return n
}

func startedOf(n impl.Node) impl.Node {
	n.Up = true
	return n
}

// nextOf is a write that n has not come to yet: of a session that has writes and may go on, where the first one is so.
func nextOf(n impl.Node, id int64) impl.Write {
	session := int64(1)
	if len(n.Writes) > 0 && lastOf(n.Writes, n.Writes[0].Session) < 999 {
		session = n.Writes[0].Session
	}
	return putOf(id, session, lastOf(n.Writes, session)+1, id, -id, 5)
}

// edgesOf are the numbers from 0 to n: all of them where there are few.
func edgesOf(n int64) []int64 {
	if n > 6 {
		return []int64{0, 1, 2, n / 2, n - 1, n}
	}
	var list []int64
	for i := range n + 1 {
		list = append(list, i)
	}
	return list
}

// manyTaken are lists of writes as a node may have them, none and 40 of them, of one session or many; the same ones at each run.
func manyTaken() [][]impl.Write {
	from := rand.New(rand.NewSource(21))
	list := [][]impl.Write{nil, {}, {dropOf(5, 1, 1)}, {putOf(999, 9, 999, 1000, -1000, 0)}, fullWrites(39), fullWrites(40)}
	for _, n := range []int{1, 2, 3, 5, 8, 20, 39, 40} {
		for _, sessions := range []int64{1, 3, 9} {
			list = append(list, risingWrites(from, n, sessions))
		}
	}
	return list
}

// manyUp are nodes that are Up: of all these writes, with as many Sure as there may be, and as many Clean.
func manyUp() []impl.Node {
	var list []impl.Node
	for _, writes := range manyTaken() {
		for _, sure := range edgesOf(int64(len(writes))) {
			for _, clean := range edgesOf(sure) {
				list = append(list, upNode(writes, sure, clean))
			}
		}
	}
	return list
}

func manyNodes() []impl.Node {
	list := manyUp()
	for _, writes := range manyTaken() {
		list = append(list, downNode(writes))
	}
	return list
}

func TestNodeBounds(t *testing.T) {
	if impl.MaxNode != 5 {
		t.Error(impl.MaxNode)
	}
}

func TestNodeOfExamples(t *testing.T) {
	put, drop := putOf(2, 3, 4, 1, -1, 0), dropOf(7, 1, 2)
	first := impl.TakeWrite(impl.NewNode(2).Node, put)
	wantNode(t, "TakeWrite", first, 1, impl.Node{Id: 2, Up: true, Writes: []impl.Write{put}})
	sure := impl.SyncNode(first.Node)
	wantNode(t, "SyncNode", sure, 1, impl.Node{Id: 2, Up: true, Writes: []impl.Write{put}, Sure: 1})
	second := impl.TakeWrite(sure.Node, drop)
	wantNode(t, "TakeWrite", second, 2, impl.Node{Id: 2, Up: true, Writes: []impl.Write{put, drop}, Sure: 1})
	clean := impl.CleanNode(second.Node, 2)
	wantNode(t, "CleanNode above Sure", clean, 0, impl.Node{Id: 2, Up: true, Writes: []impl.Write{put, drop}, Sure: 1, Clean: 1})
	if impl.DirtyIn(clean.Node, 2) || !impl.DirtyIn(clean.Node, 7) || !impl.DirtyIn(second.Node, 2) {
		t.Error("what is behind the clean ones is dirty, and nothing else")
	}
	wantNode(t, "CrashNode, nothing kept", impl.CrashNode(clean.Node, 0), 0, impl.Node{Id: 2, Writes: []impl.Write{put}, Sure: 1})
	wantNode(t, "CrashNode, all kept", impl.CrashNode(clean.Node, 1), 0, impl.Node{Id: 2, Writes: []impl.Write{put, drop}, Sure: 2})
	wantNode(t, "CrashNode of what was never sure", impl.CrashNode(first.Node, 0), 0, impl.Node{Id: 2})
	wantTable(t, "StateAt", impl.StateAt(clean.Node, 1), []impl.Item{itemOf(2, 1, -1, 0)})
	wantTable(t, "StateAt of none", impl.StateAt(clean.Node, 0), nil)
}

// A node that has nothing: it may be synced, cleaned, crashed and asked, and nil is the same as an empty list.
func TestNodesOfNothing(t *testing.T) {
	for id := int64(1); id <= 5; id++ {
		wantNode(t, "NewNode", impl.NewNode(id), 0, impl.Node{Id: id, Up: true})
		for _, none := range [][]impl.Write{nil, {}} {
			n := impl.Node{Id: id, Up: true, Writes: none}
			down := impl.Node{Id: id, Writes: none}
			wantNode(t, "SyncNode of none", impl.SyncNode(n), 0, n)
			wantNode(t, "CrashNode of none", impl.CrashNode(n, 0), 0, down)
			wantNode(t, "TakeWrite by one that has none", impl.TakeWrite(n, dropOf(7, 1, 2)), 1, takenBy(n, dropOf(7, 1, 2)))
			for index := range int64(41) {
				wantNode(t, "CleanNode of none", impl.CleanNode(n, index), 0, n)
			}
			for _, x := range []impl.Node{n, down} {
				wantTable(t, "StateAt of none", impl.StateAt(x, 0), nil)
				if impl.NodeFault(x) != impl.OK || impl.DirtyIn(x, 1) || impl.DirtyIn(x, 0) || impl.DirtyIn(x, 999) {
					t.Errorf("%+v has a fault, or something dirty", x)
				}
			}
		}
	}
	empty := dropOf(7, 1, 2)
	empty.Vec = []int64{}
	wantNode(t, "TakeWrite of a drop with an empty Vec", impl.TakeWrite(upNode(nil, 0, 0), empty), 1, upNode([]impl.Write{dropOf(7, 1, 2)}, 0, 0))
	wantNode(t, "SyncNode of a drop with an empty Vec", impl.SyncNode(upNode([]impl.Write{empty}, 0, 0)), 1, upNode([]impl.Write{dropOf(7, 1, 2)}, 1, 0))
}

// Id, Epoch and Lease at their bounds are fine; only a crash ends the Lease, and nothing changes the others.
func TestNodesAtTheirBounds(t *testing.T) {
	writes := fullWrites(4)
	for _, id := range []int64{1, 2, 3, 4, 5} {
		for _, epoch := range []int64{0, 1, 500, 998, 999} {
			for _, lease := range []int64{0, 1, 5000, 9998, 9999} {
				n := impl.Node{Id: id, Up: true, Epoch: epoch, Lease: lease, Writes: writes, Sure: 3, Clean: 1}
				if code := impl.NodeFault(n); code != impl.OK {
					t.Fatalf("NodeFault(%+v) = %d", n, code)
				}
				wantNode(t, "TakeWrite", impl.TakeWrite(n, dropOf(1, 9, 9)), 5, takenBy(n, dropOf(1, 9, 9)))
				wantNode(t, "SyncNode", impl.SyncNode(n), 4, syncedOf(n))
				wantNode(t, "CleanNode", impl.CleanNode(n, 2), 0, cleanedOf(n, 2))
				wantNode(t, "CrashNode", impl.CrashNode(n, 0), 0, impl.Node{Id: id, Epoch: epoch, Writes: writes[:3], Sure: 3})
			}
		}
	}
}

func TestNodesWithoutFault(t *testing.T) {
	for _, n := range manyNodes() {
		if code := impl.NodeFault(n); code != impl.OK {
			t.Fatalf("NodeFault(%+v) = %d", n, code)
		}
	}
}

// P10: what is taken stands behind all others, is not sure, and touches nothing of what was there.
func TestTakes(t *testing.T) {
	for _, n := range manyUp() {
		for _, w := range []impl.Write{nextOf(n, 5), dropOf(6, 9, 999), putOf(7, 8, 999, 1, 2, 3)} {
			if len(n.Writes) == 40 || seenOf(n.Writes, w.Session, w.Seq) > 0 {
				continue
			}
			wantNode(t, "TakeWrite", impl.TakeWrite(n, w), int64(len(n.Writes)+1), takenBy(n, w))
		}
	}
}

// A write that is taken twice is there once, whatever it asks for the second time, and be the node full.
func TestTakenTwice(t *testing.T) {
	for _, n := range manyUp() {
		for _, at := range edgesOf(int64(len(n.Writes)) - 1) {
			for _, w := range otherOfTicket(n.Writes[at]) {
				wantNode(t, "TakeWrite again", impl.TakeWrite(n, w), at+1, n)
			}
		}
	}
}

// A number that was skipped is old, whether or not there is room.
func TestTakesOfOldOnes(t *testing.T) {
	for _, n := range manyUp() {
		for session := int64(1); session <= 9; session++ {
			for seq := int64(1); seq < lastOf(n.Writes, session); seq += 3 {
				if seenOf(n.Writes, session, seq) == 0 {
					wantNodeCode(t, "TakeWrite of an old one", impl.TakeWrite(n, dropOf(1, session, seq)), impl.ErrOld)
				}
			}
		}
	}
}

// P10: a sync makes all sure, tells how many, and changes nothing else.
func TestSyncs(t *testing.T) {
	for _, n := range manyUp() {
		got := impl.SyncNode(n)
		wantNode(t, "SyncNode", got, int64(len(n.Writes)), syncedOf(n))
		wantNode(t, "SyncNode again", impl.SyncNode(got.Node), int64(len(n.Writes)), syncedOf(n))
	}
}

// P10: behind a crash all that was sure is there, and of the others the first kept ones, and all of it is sure then.
func TestCrashes(t *testing.T) {
	for _, n := range manyUp() {
		for kept := range int64(len(n.Writes)) - n.Sure + 1 {
			got := impl.CrashNode(n, kept)
			wantNode(t, "CrashNode", got, 0, crashedOf(n, n.Sure+kept))
			if !slices.EqualFunc(got.Node.Writes[:n.Sure], n.Writes[:n.Sure], alike) {
				t.Fatalf("%+v lost by a crash what was sure: %+v", n, got.Node)
			}
			again := impl.CrashNode(startedOf(got.Node), 0)
			wantNode(t, "CrashNode of what a crash left", again, 0, got.Node)
		}
	}
}

// P10: what is taken behind a sync is gone with a crash that keeps nothing, and what was taken ahead of it is not.
func TestCrashesOfWhatWasNeverSure(t *testing.T) {
	for _, n := range manyUp() {
		sure := impl.SyncNode(n).Node
		with := sure
		for id := int64(1); id <= 3 && len(with.Writes) < 40; id++ {
			with = impl.TakeWrite(with, nextOf(with, id)).Node
		}
		wantNode(t, "CrashNode, nothing kept", impl.CrashNode(with, 0), 0, crashedOf(with, int64(len(n.Writes))))
		wantNode(t, "SyncNode, then CrashNode", impl.CrashNode(impl.SyncNode(with).Node, 0), 0, crashedOf(with, int64(len(with.Writes))))
		all := impl.CrashNode(n, int64(len(n.Writes))-n.Sure)
		wantNode(t, "CrashNode, all kept", all, 0, crashedOf(n, int64(len(n.Writes))))
	}
}

// P10: Clean only grows, and never above Sure, whatever index is told.
func TestCleans(t *testing.T) {
	for _, n := range manyUp() {
		for index := range int64(41) {
			want := n.Clean
			for want < index && want < n.Sure {
				want++
			}
			got := impl.CleanNode(n, index)
			wantNode(t, "CleanNode", got, 0, cleanedOf(n, want))
			wantNode(t, "CleanNode again", impl.CleanNode(got.Node, index), 0, got.Node)
			wantNode(t, "CleanNode of less, later", impl.CleanNode(got.Node, index/2), 0, got.Node)
			wantNode(t, "CleanNode of none, later", impl.CleanNode(got.Node, 0), 0, got.Node)
		}
	}
}

// P10: what is clean stays so when more is taken, or made sure, and what was told above Sure is not remembered.
func TestCleanStays(t *testing.T) {
	for _, n := range manyUp() {
		clean := impl.CleanNode(n, 40).Node
		if clean.Clean != n.Sure {
			t.Fatalf("CleanNode(%+v, 40): %+v", n, clean)
		}
		if got := impl.SyncNode(clean).Node; got.Clean != n.Sure || got.Sure != int64(len(n.Writes)) {
			t.Fatalf("SyncNode(%+v): %+v", clean, got)
		}
		if len(n.Writes) < 40 {
			if got := impl.TakeWrite(clean, nextOf(n, 5)).Node; got.Clean != n.Sure || !impl.DirtyIn(got, 5) {
				t.Fatalf("TakeWrite(%+v): %+v", clean, got)
			}
		}
	}
}

// P10: what a node does not know to be at the tail is dirty, and nothing else, be the node Up or not.
func TestDirty(t *testing.T) {
	for _, n := range manyNodes() {
		var dirty [1000]bool
		for at, w := range n.Writes {
			dirty[w.Id] = dirty[w.Id] || int64(at) >= n.Clean
		}
		for id := int64(1); id <= 60; id++ {
			if impl.DirtyIn(n, id) != dirty[id] {
				t.Fatalf("DirtyIn(%+v, %d) is not %t", n, id, dirty[id])
			}
		}
		for _, id := range append(wrongIds(), 998, 999) {
			if want := id == 999 && dirty[999]; impl.DirtyIn(n, id) != want {
				t.Fatalf("DirtyIn(%+v, %d) is not %t", n, id, want)
			}
		}
	}
}

// An Id that is written often is dirty as long as the last of its writes is not clean; a drop makes dirty as a put does.
func TestDirtyOfOneId(t *testing.T) {
	writes := []impl.Write{putOf(5, 1, 1, 1, 1, 1), putOf(6, 1, 2, 1, 1, 1), dropOf(5, 1, 3), putOf(7, 1, 4, 1, 1, 1)}
	for clean, want := range [][3]bool{{true, true, true}, {true, true, true}, {true, false, true}, {false, false, true}, {false, false, false}} {
		n := upNode(writes, 4, int64(clean))
		if got := [3]bool{impl.DirtyIn(n, 5), impl.DirtyIn(n, 6), impl.DirtyIn(n, 7)}; got != want {
			t.Errorf("of 5, 6, 7 behind %d clean ones %v are dirty, want %v", clean, got, want)
		}
	}
}

// The state at a count is the table of so many first writes, be they sure or not.
func TestStates(t *testing.T) {
	for _, n := range manyNodes() {
		var p places
		for count := range int64(len(n.Writes) + 1) {
			if count > 0 {
				p.apply(n.Writes[count-1])
			}
			wantTable(t, "StateAt", impl.StateAt(n, count), p.items())
		}
	}
}

// A table has room for 30 items: of 40 puts the last ten find none.
func TestStatesWithoutRoom(t *testing.T) {
	n := upNode(fullWrites(40), 40, 40)
	wantTable(t, "StateAt 30", impl.StateAt(n, 30), impl.TableOf(fullWrites(30)).Items)
	wantTable(t, "StateAt 40", impl.StateAt(n, 40), impl.TableOf(fullWrites(30)).Items)
}

// A node takes exactly 40 writes, wherever it is synced; behind a crash there is room again.
func TestNodesThatFill(t *testing.T) {
	full := fullWrites(40)
	for sync := range 41 {
		n := impl.NewNode(1).Node
		for i, w := range full {
			if i == sync {
				n = impl.SyncNode(n).Node
			}
			got := impl.TakeWrite(n, w)
			if got.Code != impl.OK || got.At != int64(i+1) {
				t.Fatalf("the write at %d: %+v", i, got)
			}
			n = got.Node
		}
		if sync == 40 {
			n = impl.SyncNode(n).Node
		}
		want := impl.Node{Id: 1, Up: true, Writes: full, Sure: int64(sync)}
		wantNode(t, "CleanNode of a full node", impl.CleanNode(n, 0), 0, want)
		wantNodeCode(t, "TakeWrite by a full node", impl.TakeWrite(n, dropOf(1, 1, 900)), impl.ErrMany)
		wantNode(t, "TakeWrite by a full node that has it", impl.TakeWrite(n, full[39]), 40, want)
		if sync < 40 {
			torn := impl.CrashNode(n, int64(39-sync))
			wantNode(t, "CrashNode of a full node", torn, 0, impl.Node{Id: 1, Writes: full[:39], Sure: 39})
			wantNode(t, "TakeWrite behind a crash", impl.TakeWrite(startedOf(torn.Node), full[39]), 40, impl.Node{Id: 1, Up: true, Writes: full, Sure: 39})
		}
	}
}

// What a crash took away may be taken again: nothing remembers it.
func TestTakesBehindACrash(t *testing.T) {
	w := putOf(5, 1, 7, 1, 2, 3)
	n := impl.TakeWrite(impl.NewNode(4).Node, w).Node
	lost := startedOf(impl.CrashNode(n, 0).Node)
	wantNode(t, "TakeWrite of what was lost", impl.TakeWrite(lost, w), 1, n)
	wantNode(t, "TakeWrite of a lower number", impl.TakeWrite(lost, dropOf(5, 1, 6)), 1, impl.Node{Id: 4, Up: true, Writes: []impl.Write{dropOf(5, 1, 6)}})
	kept := startedOf(impl.CrashNode(n, 1).Node)
	wantNode(t, "TakeWrite of what was kept", impl.TakeWrite(kept, w), 1, syncedOf(n))
	wantNodeCode(t, "TakeWrite of a lower number", impl.TakeWrite(kept, dropOf(5, 1, 6)), impl.ErrOld)
}

// wantTake holds a take against what sessions ask for.
func wantTake(t *testing.T, n impl.Node, w impl.Write) impl.Node {
	t.Helper()
	got, once := impl.TakeWrite(n, w), onceOf(n.Writes, w)
	if once.Code == impl.OK && len(once.Writes) > 40 {
		once = impl.OnceResult{Code: impl.ErrMany}
	}
	if once.Code != impl.OK {
		wantNodeCode(t, "TakeWrite", got, once.Code)
		return n
	}
	want := n
	want.Writes = once.Writes
	wantNode(t, "TakeWrite", got, once.At, want)
	return got.Node
}

// stepOf is one step of a node that is Up, held against what it should be.
func stepOf(t *testing.T, from *rand.Rand, n impl.Node) impl.Node {
	t.Helper()
	count := int64(len(n.Writes))
	switch from.Intn(12) {
	case 0, 1:
		wantNode(t, "SyncNode", impl.SyncNode(n), count, syncedOf(n))
		return impl.SyncNode(n).Node
	case 2, 3:
		index := from.Int63n(41)
		wantNode(t, "CleanNode", impl.CleanNode(n, index), 0, cleanedOf(n, max(n.Clean, min(index, n.Sure))))
		return impl.CleanNode(n, index).Node
	case 4:
		kept := from.Int63n(count - n.Sure + 1)
		wantNode(t, "CrashNode", impl.CrashNode(n, kept), 0, crashedOf(n, n.Sure+kept))
		return impl.CrashNode(n, kept).Node
	default:
		w := someWrites(from, 1, 20)[0]
		w.Session = 1 + from.Int63n(3)
		w.Seq = max(1, lastOf(n.Writes, w.Session)-2+from.Int63n(6))
		return wantTake(t, n, w)
	}
}

// P10: a node that takes, syncs, cleans and crashes in any order keeps what is sure, and knows less only behind a crash.
func TestNodesOfManySteps(t *testing.T) {
	from := rand.New(rand.NewSource(22))
	for range 150 {
		n := impl.NewNode(1 + from.Int63n(5)).Node
		for range 90 {
			next := stepOf(t, from, n)
			if next.Sure < n.Sure || !slices.EqualFunc(next.Writes[:n.Sure], n.Writes[:n.Sure], alike) {
				t.Fatalf("%+v lost what was sure: %+v", n, next)
			}
			if next.Up && next.Clean < n.Clean || next.Clean > next.Sure {
				t.Fatalf("%+v knows less, or too much: %+v", n, next)
			}
			for _, w := range next.Writes[next.Clean:] {
				if !impl.DirtyIn(next, w.Id) {
					t.Fatalf("%+v: %d is not dirty", next, w.Id)
				}
			}
			n = startedOf(next)
		}
	}
}

// P1: what is asked again is answered again.
func TestNodesAnswerAgain(t *testing.T) {
	for _, n := range manyUp() {
		w := nextOf(n, 5)
		for range 2 {
			wantTake(t, n, w)
			wantNode(t, "SyncNode", impl.SyncNode(n), int64(len(n.Writes)), syncedOf(n))
			wantNode(t, "CrashNode", impl.CrashNode(n, 0), 0, crashedOf(n, n.Sure))
			wantNode(t, "CleanNode", impl.CleanNode(n, n.Sure), 0, cleanedOf(n, n.Sure))
		}
	}
}
