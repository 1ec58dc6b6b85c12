package tests

import (
	"math"
	"slices"
	"testing"

	"loop.example/g00357/impl"
)

func wantNodeCode(t *testing.T, what string, got impl.NodeResult, code int64) {
	t.Helper()
	if got.Code != code || got.At != 0 || !alikeNode(got.Node, impl.Node{}) {
		t.Fatalf("%s: %+v, want the code %d alone", what, got, code)
	}
}

// wrongNode is no node, and has the code that is named first of it.
type wrongNode struct {
	n    impl.Node
	code int64
}

func outOfNode() []int64 {
	return append(outOf(1, 5), 1<<32+3, -1<<32+3)
}

// outOfNumbers are n with its Id, its Epoch or its Lease out of bounds.
func outOfNumbers(n impl.Node) []wrongNode {
	var list []wrongNode
	for _, id := range outOfNode() {
		other := n
		other.Id = id
		list = append(list, wrongNode{other, impl.ErrRange})
	}
	for _, epoch := range append(outOf(0, 999), 1<<32+7) {
		other := n
		other.Epoch = epoch
		list = append(list, wrongNode{other, impl.ErrRange})
	}
	for _, lease := range append(outOf(0, 9999), 1<<32+7) {
		other := n
		other.Lease = lease
		list = append(list, wrongNode{other, impl.ErrRange})
	}
	return list
}

// manyWrongWrites are too many, or have one with a fault, or are not once right, each with its code.
func manyWrongWrites() []wrongStory {
	form, out := impl.Write{Kind: 3, Id: 1, Session: 1, Seq: 1}, putOf(1, 1, 1, 0, 0, 1001)
	list := []wrongStory{
		{fullWrites(41), impl.ErrMany},
		{fullWrites(200), impl.ErrMany},
		{fullWrites(201), impl.ErrMany},
		{make([]impl.Write, 41), impl.ErrMany},
		{append(fullWrites(40), form), impl.ErrMany},
		{slices.Repeat([]impl.Write{dropOf(1, 1, 1)}, 41), impl.ErrMany},
		{make([]impl.Write, 40), impl.ErrForm},
		{[]impl.Write{form, out}, impl.ErrForm},
		{[]impl.Write{out, form}, impl.ErrRange},
		{[]impl.Write{dropOf(1, 1, 2), dropOf(1, 1, 1), form}, impl.ErrForm},
		{[]impl.Write{dropOf(1, 1, 1), dropOf(1, 1, 1), out}, impl.ErrRange},
		{[]impl.Write{dropOf(1, 1, 1), dropOf(1, 1, 1)}, impl.ErrTaken},
		{[]impl.Write{dropOf(1, 1, 1), putOf(2, 1, 1, 3, 4, 5)}, impl.ErrTaken},
		{[]impl.Write{dropOf(1, 1, 2), dropOf(1, 1, 1)}, impl.ErrTaken},
		{[]impl.Write{dropOf(1, 9, 999), dropOf(1, 1, 1), dropOf(1, 9, 998)}, impl.ErrTaken},
		{fewWrites(), impl.ErrTaken},
		{slices.Repeat([]impl.Write{dropOf(1, 1, 1)}, 40), impl.ErrTaken},
	}
	for i, x := range wrongWrites() {
		if i%3 == 0 {
			list = append(list, wrongStory{[]impl.Write{x.w}, x.code}, wrongStory{[]impl.Write{dropOf(1, 1, 1), x.w, form}, x.code})
		}
	}
	for place := range 40 {
		writes := fullWrites(40)
		writes[place] = out
		twice := fullWrites(40)
		twice[place].Session, twice[place].Seq = twice[(place+1)%40].Session, twice[(place+1)%40].Seq
		list = append(list, wrongStory{writes, impl.ErrRange}, wrongStory{writes[:place+1], impl.ErrRange}, wrongStory{twice, impl.ErrTaken})
	}
	return list
}

// wrongSures are n with Sure out of bounds, or with Clean, however many writes it has.
func wrongSures(n impl.Node) []wrongNode {
	var list []wrongNode
	count := int64(len(n.Writes))
	for _, sure := range append(outOf(0, count), count+2, 41, 1<<32+count) {
		for _, clean := range []int64{0, count, sure} {
			other := n
			other.Sure, other.Clean = sure, clean
			if sure < 0 || sure > count {
				list = append(list, wrongNode{other, impl.ErrRange})
			}
		}
	}
	for sure := range count + 1 {
		for _, clean := range append(outOf(0, sure), sure+2, count+1, 1<<32+sure) {
			other := n
			other.Sure, other.Clean = sure, clean
			if clean < 0 || clean > sure {
				list = append(list, wrongNode{other, impl.ErrRange})
			}
		}
	}
	return list
}

// wrongDowns are not Up, and not as a crash leaves a node.
func wrongDowns() []wrongNode {
	var list []wrongNode
	for _, writes := range [][]impl.Write{nil, fullWrites(1), fullWrites(3), fullWrites(40)} {
		count := int64(len(writes))
		for _, sure := range edgesOf(count) {
			for _, clean := range edgesOf(sure) {
				for _, lease := range []int64{0, 1, 44, 9999} {
					n := impl.Node{Id: 1, Epoch: 3, Lease: lease, Writes: writes, Sure: sure, Clean: clean}
					if sure != count || clean != 0 || lease != 0 {
						list = append(list, wrongNode{n, impl.ErrForm})
					}
				}
			}
		}
	}
	return list
}

// wrongInOneThing have one fault alone, in a node that is Up or down.
func wrongInOneThing() []wrongNode {
	list := slices.Concat(wrongDowns(), wrongSures(upNode(nil, 0, 0)), wrongSures(upNode(fullWrites(3), 0, 0)), wrongSures(upNode(fullWrites(40), 0, 0)))
	for _, n := range []impl.Node{upNode(nil, 0, 0), upNode(fullWrites(5), 3, 2), upNode(fullWrites(40), 40, 40), downNode(nil), downNode(fullWrites(5))} {
		list = append(list, outOfNumbers(n)...)
	}
	for _, x := range manyWrongWrites() {
		count := int64(len(x.writes))
		for _, n := range []impl.Node{upNode(x.writes, 0, 0), upNode(x.writes, count, 0), upNode(x.writes, count, count), downNode(x.writes)} {
			list = append(list, wrongNode{n, x.code})
		}
	}
	return list
}

// wrongInSeveral have several faults: the numbers are asked first, then the writes, then Sure and Clean, then what a node that is down may have.
func wrongInSeveral() []wrongNode {
	var list []wrongNode
	for _, x := range manyWrongWrites() {
		for _, up := range []bool{true, false} {
			worst := impl.Node{Id: 2, Up: up, Epoch: 9, Lease: 8, Writes: x.writes, Sure: 99, Clean: -1}
			list = append(list, wrongNode{worst, x.code})
			worst.Sure, worst.Clean = 0, 1
			list = append(list, wrongNode{worst, x.code})
			worst.Id = 6
			list = append(list, wrongNode{worst, impl.ErrRange})
			worst.Id, worst.Epoch = 5, 1000
			list = append(list, wrongNode{worst, impl.ErrRange})
			worst.Epoch, worst.Lease = 0, 10000
			list = append(list, wrongNode{worst, impl.ErrRange})
		}
	}
	for _, writes := range [][]impl.Write{nil, fullWrites(3), fullWrites(40)} {
		for _, x := range wrongSures(downNode(writes)) {
			x.n.Lease = 5
			list = append(list, x)
		}
	}
	return list
}

func wrongNodes() []wrongNode {
	return slices.Concat(wrongInOneThing(), wrongInSeveral())
}

// P1: a node with a fault is told ahead of all else, whatever else is wrong.
func TestWrongNodes(t *testing.T) {
	for _, x := range wrongNodes() {
		if code := impl.NodeFault(x.n); code != x.code {
			t.Fatalf("NodeFault(%+v) = %d, want %d", x.n, code, x.code)
		}
		wantNodeCode(t, "SyncNode, the node wrong", impl.SyncNode(x.n), x.code)
		for _, number := range []int64{0, 1, 40, 41, -1, math.MinInt64, math.MaxInt64} {
			wantNodeCode(t, "CleanNode, the node wrong", impl.CleanNode(x.n, number), x.code)
			wantNodeCode(t, "CrashNode, the node wrong", impl.CrashNode(x.n, number), x.code)
			wantTableCode(t, "StateAt, the node wrong", impl.StateAt(x.n, number), x.code)
		}
		for _, w := range []impl.Write{{}, {Kind: 1}, dropOf(1, 1, 1), putOf(1, 9, 999, 0, 0, 0), putOf(1, 1, 1, 0, 0, 1001)} {
			wantNodeCode(t, "TakeWrite, the node wrong", impl.TakeWrite(x.n, w), x.code)
		}
	}
}

// A node with a fault has nothing that is dirty, though its writes may be of the Id.
func TestNothingIsDirtyInWrongNodes(t *testing.T) {
	for _, x := range wrongNodes() {
		for id := int64(0); id <= 3; id++ {
			if impl.DirtyIn(x.n, id) {
				t.Fatalf("DirtyIn(%+v, %d) is so", x.n, id)
			}
		}
		for _, w := range x.n.Writes {
			if impl.DirtyIn(x.n, w.Id) {
				t.Fatalf("DirtyIn(%+v, %d) is so", x.n, w.Id)
			}
		}
	}
}

func TestWrongNewNodes(t *testing.T) {
	for _, id := range append(outOfNode(), 0, 6) {
		wantNodeCode(t, "NewNode", impl.NewNode(id), impl.ErrRange)
	}
}

// P1: that a node is down is told ahead of all but its own fault; it may be asked for what it has, though.
func TestDownNodes(t *testing.T) {
	for _, writes := range manyTaken() {
		n := downNode(writes)
		wantNodeCode(t, "SyncNode of one that is down", impl.SyncNode(n), impl.ErrDown)
		for _, number := range []int64{0, 1, 40, 41, -1, math.MinInt64, math.MaxInt64} {
			wantNodeCode(t, "CleanNode of one that is down", impl.CleanNode(n, number), impl.ErrDown)
			wantNodeCode(t, "CrashNode of one that is down", impl.CrashNode(n, number), impl.ErrDown)
		}
		for _, w := range []impl.Write{{}, {Kind: 1}, putOf(1, 1, 1, 0, 0, 1001), dropOf(1, 1, 1), nextOf(n, 4)} {
			wantNodeCode(t, "TakeWrite by one that is down", impl.TakeWrite(n, w), impl.ErrDown)
		}
		for _, w := range writes {
			wantNodeCode(t, "TakeWrite by one that is down and has it", impl.TakeWrite(n, w), impl.ErrDown)
			if !impl.DirtyIn(n, w.Id) {
				t.Fatalf("DirtyIn(%+v, %d) is not so", n, w.Id)
			}
		}
		wantTable(t, "StateAt of one that is down", impl.StateAt(n, int64(len(writes))), impl.TableOf(writes).Items)
	}
}

// goodNodes are Up and have no fault: what is wrong then is another argument.
func goodNodes() []impl.Node {
	return []impl.Node{impl.NewNode(1).Node, upNode(nil, 0, 0), upNode(fullWrites(5), 3, 1), upNode(fullWrites(39), 0, 0), upNode(fullWrites(40), 0, 0), upNode(fullWrites(40), 20, 20), upNode(fullWrites(40), 40, 7)}
}

// The write's own fault is told also where it would be there, or old, or one too many.
func TestWrongWritesTaken(t *testing.T) {
	for _, n := range goodNodes() {
		for _, x := range wrongWrites() {
			wantNodeCode(t, "TakeWrite, write wrong", impl.TakeWrite(n, x.w), x.code)
		}
	}
	there, later := upNode([]impl.Write{dropOf(9, 3, 4)}, 1, 0), upNode([]impl.Write{dropOf(9, 3, 5)}, 0, 0)
	for _, x := range wrongWrites() {
		wantNodeCode(t, "TakeWrite, write wrong and there", impl.TakeWrite(there, x.w), x.code)
		wantNodeCode(t, "TakeWrite, write wrong and old", impl.TakeWrite(later, x.w), x.code)
	}
}

// What is there is asked ahead of what is old, and that ahead of whether there is room.
func TestOrderOfTakes(t *testing.T) {
	var writes []impl.Write
	for seq := int64(2); seq <= 80; seq += 2 {
		writes = append(writes, dropOf(seq, 1, seq))
	}
	for _, sure := range []int64{0, 20, 40} {
		n := upNode(writes, sure, sure)
		for seq := int64(1); seq <= 90; seq++ {
			got := impl.TakeWrite(n, putOf(5, 1, seq, 1, 1, 1))
			switch {
			case seq > 80:
				wantNodeCode(t, "TakeWrite of a new one by a full node", got, impl.ErrMany)
			case seq%2 == 0:
				wantNode(t, "TakeWrite of one that is there by a full node", got, seq/2, n)
			default:
				wantNodeCode(t, "TakeWrite of an old one by a full node", got, impl.ErrOld)
			}
			wantNodeCode(t, "TakeWrite of another session by a full node", impl.TakeWrite(n, dropOf(5, 2, seq)), impl.ErrMany)
		}
	}
	one := upNode(writes[:39], 0, 0)
	wantNodeCode(t, "TakeWrite of an old one", impl.TakeWrite(one, dropOf(1, 1, 77)), impl.ErrOld)
	wantNode(t, "TakeWrite of the last one that has room", impl.TakeWrite(one, dropOf(1, 1, 79)), 40, takenBy(one, dropOf(1, 1, 79)))
}

// An index may be above Sure and above how many writes there are, but not above 40.
func TestWrongIndexesOfNodes(t *testing.T) {
	for _, n := range goodNodes() {
		for _, index := range append(outOf(0, 40), 42, 1<<32+1, -1<<32+1) {
			wantNodeCode(t, "CleanNode, index wrong", impl.CleanNode(n, index), impl.ErrRange)
		}
		wantNode(t, "CleanNode of 40", impl.CleanNode(n, 40), 0, cleanedOf(n, n.Sure))
		wantNode(t, "CleanNode of 0", impl.CleanNode(n, 0), 0, n)
	}
}

// kept counts the writes that do not last alone, how many may be sure.
func TestWrongKeptOfNodes(t *testing.T) {
	for _, n := range goodNodes() {
		loose := int64(len(n.Writes)) - n.Sure
		for _, kept := range append(outOf(0, loose), loose+2, 41, 1<<32+loose, -1<<32+loose) {
			if kept < 0 || kept > loose {
				wantNodeCode(t, "CrashNode, kept wrong", impl.CrashNode(n, kept), impl.ErrRange)
			}
		}
		wantNode(t, "CrashNode, all kept", impl.CrashNode(n, loose), 0, crashedOf(n, int64(len(n.Writes))))
	}
}

func TestWrongCountsOfStates(t *testing.T) {
	for _, n := range append(goodNodes(), downNode(nil), downNode(fullWrites(7))) {
		count := int64(len(n.Writes))
		for _, wrong := range append(outOf(0, count), count+2, 41, 1<<32+count, -1<<32+count) {
			if wrong < 0 || wrong > count {
				wantTableCode(t, "StateAt, count wrong", impl.StateAt(n, wrong), impl.ErrRange)
			}
		}
		wantTable(t, "StateAt of all", impl.StateAt(n, count), impl.TableOf(n.Writes).Items)
	}
}

func cloneNode(n impl.Node) impl.Node {
	n.Writes = cloneWrites(n.Writes)
	return n
}

// scribbleNode writes over the writes of a node, over their vectors, and over all the room behind them.
func scribbleNode(n impl.Node) {
	all := n.Writes[:cap(n.Writes)]
	for i := range all {
		for room, j := all[i].Vec[:cap(all[i].Vec)], 0; j < len(room); j++ {
			room[j] = 88
		}
		all[i] = impl.Write{Kind: 88}
	}
}

// askNode calls all functions with a node, and writes over all that they answer.
func askNode(n impl.Node, w impl.Write, number int64) {
	impl.NodeFault(n)
	impl.DirtyIn(n, number)
	scribbleNode(impl.NewNode(number).Node)
	scribbleNode(impl.TakeWrite(n, w).Node)
	scribbleNode(impl.SyncNode(n).Node)
	scribbleNode(impl.CleanNode(n, number).Node)
	scribbleNode(impl.CrashNode(n, number).Node)
	scribbleItems(impl.StateAt(n, number).Items)
}

// stayingNodes are of all kinds, with a fault and without.
func stayingNodes() []impl.Node {
	var list []impl.Node
	for i, n := range manyNodes() {
		if i%4 == 0 {
			list = append(list, n)
		}
	}
	for i, x := range wrongNodes() {
		if i%7 == 0 {
			list = append(list, x.n)
		}
	}
	return list
}

// P1: no argument is changed, not even what lies behind it, nor by a change of the answer.
func TestNodesStay(t *testing.T) {
	for _, was := range stayingNodes() {
		writes, room, vecs := spareWrites(was.Writes)
		wasRoom, wasVecs := cloneWrites(room), [][]int64{}
		for _, all := range vecs {
			wasVecs = append(wasVecs, slices.Clone(all))
		}
		vec, vecRoom := spareOf([]int64{4, 5, 6})
		wasVec := slices.Clone(vecRoom)
		n := was
		n.Writes = writes
		for _, number := range []int64{-1, 0, 1, 2, 5, 39, 40} {
			for _, seq := range []int64{0, 1, 2, 900} {
				askNode(n, impl.Write{Kind: 1, Id: 3, Vec: vec, Session: 1, Seq: seq}, number)
			}
			for _, w := range writes[:min(len(writes), 2)] {
				askNode(n, w, number)
			}
		}
		if !slices.EqualFunc(room, wasRoom, alike) || !slices.EqualFunc(vecs, wasVecs, slices.Equal[[]int64]) || !slices.Equal(vecRoom, wasVec) {
			t.Fatalf("%+v was changed to %v, or the Vec to %v", was, room, vecRoom)
		}
	}
}

// nodesFrom are all answers with a node: of arguments that are made anew, and what is called once the answers are there, to change all that was given.
func nodesFrom() (answers map[string]impl.Node, spoil func()) {
	n, w := upNode(fullWrites(20), 10, 4), putOf(50, 2, 500, 7, 8, 9)
	full := upNode(fullWrites(40), 0, 0)
	again := cloneWrites(n.Writes)[3]
	answers = map[string]impl.Node{
		"TakeWrite":                      impl.TakeWrite(n, w).Node,
		"TakeWrite of a drop":            impl.TakeWrite(n, dropOf(4, 1, 900)).Node,
		"TakeWrite of one that is there": impl.TakeWrite(n, again).Node,
		"TakeWrite of its own":           impl.TakeWrite(n, n.Writes[19]).Node,
		"TakeWrite by one that has none": impl.TakeWrite(upNode(nil, 0, 0), w).Node,
		"TakeWrite by a full one":        impl.TakeWrite(full, full.Writes[39]).Node,
		"TakeWrite, the Vec of another":  impl.TakeWrite(n, impl.Write{Kind: 1, Id: 1, Vec: n.Writes[0].Vec, Session: 1, Seq: 999}).Node,
		"SyncNode":                       impl.SyncNode(n).Node,
		"SyncNode of a full one":         impl.SyncNode(full).Node,
		"SyncNode of what is sure":       impl.SyncNode(syncedOf(n)).Node,
		"CleanNode":                      impl.CleanNode(n, 7).Node,
		"CleanNode below Clean":          impl.CleanNode(n, 2).Node,
		"CleanNode above Sure":           impl.CleanNode(n, 40).Node,
		"CrashNode, nothing kept":        impl.CrashNode(n, 0).Node,
		"CrashNode, some kept":           impl.CrashNode(n, 5).Node,
		"CrashNode, all kept":            impl.CrashNode(n, 10).Node,
		"CrashNode of a full one":        impl.CrashNode(full, 40).Node,
		"CrashNode of what is sure":      impl.CrashNode(syncedOf(n), 0).Node,
		"TakeWrite, with room behind it": impl.TakeWrite(upNode(n.Writes[:6], 2, 1), impl.Write{Kind: 1, Id: 1, Vec: w.Vec, Session: 1, Seq: 999}).Node,
		"CrashNode, with room behind it": impl.CrashNode(upNode(n.Writes[:6], 2, 1), 3).Node,
		"CleanNode of what is sure":      impl.CleanNode(syncedOf(n), 20).Node,
		"SyncNode, with room behind it":  impl.SyncNode(upNode(n.Writes[:11], 2, 1)).Node,
	}
	return answers, func() {
		scribbleNode(n)
		scribbleNode(full)
		scribbleInts(w.Vec)
		scribbleInts(again.Vec)
	}
}

// P1: an answer stays as it is, whatever becomes of the arguments that it came from.
func TestNodesAreNotShared(t *testing.T) {
	want, _ := nodesFrom()
	got, spoil := nodesFrom()
	spoil()
	for what, n := range got {
		if len(n.Writes) == 0 || !alikeNode(n, want[what]) {
			t.Errorf("%s: %+v became %+v by a change of what was given", what, want[what], n)
		}
	}
}

// P1: no two lists of one answer share any memory, not even behind their ends.
func TestListsOfOneNodeAreApart(t *testing.T) {
	want, _ := nodesFrom()
	for at := range 40 {
		answers, _ := nodesFrom()
		for what, n := range answers {
			if at >= len(n.Writes) {
				continue
			}
			vec := n.Writes[at].Vec
			for room, i := vec[:cap(vec)], 0; i < len(room); i++ {
				room[i] = 88
			}
			n.Writes[at].Vec = want[what].Writes[at].Vec
			if !alikeNode(n, want[what]) {
				t.Fatalf("%s: %+v became %+v by a change at %d", what, want[what], n, at)
			}
		}
	}
}

// P1: the lists of an answer are apart also where those that were given were one.
func TestNodesOfOneVector(t *testing.T) {
	one := []int64{1, 2, 3}
	var writes []impl.Write
	for seq := int64(1); seq <= 10; seq++ {
		writes = append(writes, impl.Write{Kind: 1, Id: seq, Vec: one, Session: 1, Seq: seq})
	}
	n := upNode(writes, 5, 2)
	more := impl.Write{Kind: 1, Id: 11, Vec: one, Session: 1, Seq: 11}
	for _, got := range []impl.Node{impl.TakeWrite(n, more).Node, impl.TakeWrite(n, writes[4]).Node, impl.SyncNode(n).Node, impl.CleanNode(n, 9).Node, impl.CrashNode(n, 3).Node} {
		if len(got.Writes) < 8 || !slices.EqualFunc(got.Writes, append(slices.Clone(writes), more)[:len(got.Writes)], alike) {
			t.Fatalf("%+v, want the first of %v", got, writes)
		}
		for i := range got.Writes {
			scribbleInts(got.Writes[i].Vec)
			for _, later := range got.Writes[i+1:] {
				if !slices.Equal(later.Vec, []int64{1, 2, 3}) {
					t.Fatalf("%v became %v by a change of another one", one, later)
				}
			}
		}
		if !slices.Equal(one, []int64{1, 2, 3}) {
			t.Fatalf("what was given became %v", one)
		}
	}
	items := impl.StateAt(n, 10).Items
	for i := range items {
		if !slices.Equal(items[i].Vec, []int64{1, 2, 3}) {
			t.Fatalf("%v became %v by a change of another one", one, items[i])
		}
		scribbleInts(items[i].Vec)
	}
	if len(items) != 10 || !slices.Equal(one, []int64{1, 2, 3}) {
		t.Fatalf("%d items, and what was given became %v", len(items), one)
	}
}

// P1: each answer is new memory, and the same whatever was called or changed ahead of it.
func TestNodesAreNew(t *testing.T) {
	want, _ := nodesFrom()
	first, _ := nodesFrom()
	kept, _ := nodesFrom()
	for _, n := range first {
		scribbleNode(n)
	}
	impl.TakeWrite(upNode(fullWrites(40), 0, 0), dropOf(1, 9, 999))
	impl.CrashNode(upNode(fullWrites(30), 3, 3), 5)
	again, _ := nodesFrom()
	for what, n := range want {
		if !alikeNode(kept[what], n) || !alikeNode(again[what], n) {
			t.Errorf("%s: %+v became %+v and %+v by a change of another answer", what, n, kept[what], again[what])
		}
	}
}

// P1: two answers from one node stay apart, also where each has one write more.
func TestNodesThatPart(t *testing.T) {
	for _, n := range []impl.Node{impl.TakeWrite(upNode(fullWrites(20), 5, 5), dropOf(1, 1, 500)).Node, startedOf(impl.CrashNode(upNode(fullWrites(30), 5, 5), 15).Node)} {
		was := cloneNode(n)
		left, right := impl.TakeWrite(n, putOf(2, 2, 500, 2, 2, 2)), impl.TakeWrite(n, putOf(3, 3, 600, 3, 3, 3))
		wantNode(t, "TakeWrite", left, int64(len(was.Writes)+1), takenBy(was, putOf(2, 2, 500, 2, 2, 2)))
		wantNode(t, "TakeWrite", right, int64(len(was.Writes)+1), takenBy(was, putOf(3, 3, 600, 3, 3, 3)))
		if !alikeNode(n, was) {
			t.Errorf("%+v became %+v", was, n)
		}
	}
}

// P1: calls at the same time keep nothing that another one could see (a run with -race tells of it as well).
func TestNodesBesideOneAnother(t *testing.T) {
	done := make(chan bool)
	shared := upNode(fullWrites(30), 20, 5)
	for worker := range int64(8) {
		w := putOf(100+worker, 1+worker, 900, worker, -worker, 0)
		with := takenBy(upNode(fullWrites(30), 20, 5), w)
		go func() {
			right := true
			for range 100 {
				got := impl.TakeWrite(shared, w)
				right = right && got.At == 31 && alikeNode(got.Node, with) && impl.DirtyIn(got.Node, 100+worker) && !impl.DirtyIn(shared, 100+worker)
				right = right && alikeNode(impl.CrashNode(got.Node, worker).Node, crashedOf(with, 20+worker)) && impl.SyncNode(got.Node).At == 31
				right = right && impl.CleanNode(shared, 10+worker).Node.Clean == 10+worker && int64(len(impl.StateAt(shared, worker).Items)) == worker
			}
			done <- right
		}()
	}
	for range 8 {
		if !<-done {
			t.Error("a call answered otherwise beside others")
		}
	}
}
