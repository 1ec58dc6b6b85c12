package tests

import (
	"fmt"
	"math"
	"reflect"
	"slices"
	"testing"

	"loop.example/g00357/impl"
)

// answersOf are all answers of a world to numbers that may be wrong.
func answersOf(w impl.World, node, number int64, query []int64) map[string]impl.AnswerResult {
	return map[string]impl.AnswerResult{
		"ReadWorld": impl.ReadWorld(w, node, number),
		"FindWorld": impl.FindWorld(w, node, query, number),
	}
}

// P1: what is wrong with a world is told ahead of all that is wrong beside it, and all else is zero.
func TestWrongWorldsOfReads(t *testing.T) {
	for _, x := range wrongWorlds() {
		if got := impl.StateIn(x.w); got.Code != x.code || len(got.Items) > 0 {
			t.Fatalf("StateIn(%+v) = %+v, want the code %d", x.w, got, x.code)
		}
		if code := impl.MayAnswer(x.w, 2); code != x.code {
			t.Fatalf("MayAnswer(%+v, 2) = %d, want %d", x.w, code, x.code)
		}
	}
	for _, x := range fewWrongWorlds() {
		for _, node := range []int64{1, 2, 4, 0, 6, math.MinInt64, math.MaxInt64} {
			if code := impl.MayAnswer(x.w, node); code != x.code {
				t.Fatalf("MayAnswer(%+v, %d) = %d, want %d", x.w, node, code, x.code)
			}
			for _, number := range []int64{1, 0, -1, 1000, math.MaxInt64} {
				for _, query := range [][]int64{nil, {1, 2, 3}, {1, 2, 1001}} {
					for what, got := range answersOf(x.w, node, number, query) {
						wantAnswerCode(t, what+" of a wrong world", got, x.code)
					}
				}
				wantWorldCode(t, "FinishWorld of a wrong world", impl.FinishWorld(x.w, number, node), x.code)
			}
		}
		wantWorldCode(t, "FinishWorld of a wrong world", impl.FinishWorld(x.w, 1, 10), x.code)
	}
}

// noNodes are numbers that are no node's, of so many.
func noNodes(count int64) []int64 {
	var list []int64
	for _, id := range append(outOf(1, count), count+2, 1<<32+1, -1<<32+1, math.MinInt64+1) {
		if id < 1 || id > count {
			list = append(list, id)
		}
	}
	return list
}

// That there are all events, or all entries, is told ahead of one that is no node's or may not answer, and that ahead of what is asked for.
func TestFullWorldsOfReads(t *testing.T) {
	ended, full := storyWorld(), storyWorld()
	ended.Events = 9999
	full.History = fullHistory(60)
	full.Events = 200
	both := full
	both.Events = 9999
	for _, w := range []impl.World{ended, full, both} {
		for _, node := range append(noNodes(5), 1, 2, 3, 4, 5) {
			for _, number := range []int64{6, 0, -1, 1000} {
				for _, query := range [][]int64{{1, 1, 1}, nil, {0, 0, -1001}} {
					for what, got := range answersOf(w, node, number, query) {
						wantAnswerCode(t, what+" of a full world", got, impl.ErrMany)
					}
				}
			}
		}
	}
}

// Who is no node's is told ahead of who is no member, that ahead of a lease that is over, and all of them ahead of what is asked for.
func TestWrongNodesOfReads(t *testing.T) {
	for _, lease := range []int64{0, 19, 20, 99} {
		w := storyWorld()
		for i := range w.Nodes[:4] {
			w.Nodes[i].Lease = lease
		}
		for _, number := range []int64{6, 0, -1, 1000, math.MinInt64} {
			for _, query := range [][]int64{{1, 1, 1}, nil, {0, 0, -1001}} {
				for _, node := range noNodes(5) {
					for what, got := range answersOf(w, node, number, query) {
						wantAnswerCode(t, what+" of no node", got, impl.ErrNone)
					}
					if code := impl.MayAnswer(w, node); code != impl.ErrNone {
						t.Errorf("MayAnswer(%d) = %d", node, code)
					}
				}
				for _, node := range []int64{4, 5} {
					for what, got := range answersOf(w, node, number, query) {
						wantAnswerCode(t, what+" of no member", got, impl.ErrDown)
					}
				}
				for node := int64(1); node <= 3 && lease < 20; node++ {
					for what, got := range answersOf(w, node, number, query) {
						wantAnswerCode(t, what+" behind a lease", got, impl.ErrLease)
					}
				}
			}
		}
	}
	small := impl.NewWorld(2).World
	for _, node := range []int64{3, 4, 5} {
		wantAnswerCode(t, "ReadWorld of no node", impl.ReadWorld(small, node, 1), impl.ErrNone)
	}
}

// mutedWorlds are such as tell nothing: the tail is down, or has more that is sure than the others have.
func mutedWorlds() []impl.World {
	down := downIn(storyWorld(), 3)
	for i := range down.Nodes[:2] {
		down.Nodes[i].Clean = 0
	}
	short := storyWorld()
	short.Nodes[2].Writes, short.Nodes[2].Sure = fullWrites(8), 8
	return []impl.World{down, short}
}

// An id that is not 1 to 999 is told ahead of a tail that is down, and of one that has more; where there is neither, too.
func TestWrongIdsOfReads(t *testing.T) {
	for _, id := range append(outOf(1, 999), 1001, 1<<32+6, -1<<32+6, math.MinInt64+1) {
		for _, w := range append(mutedWorlds(), storyWorld()) {
			for _, node := range []int64{1, 2} {
				wantAnswerCode(t, fmt.Sprint("ReadWorld of the id ", id), impl.ReadWorld(w, node, id), impl.ErrRange)
			}
		}
		wantAnswerCode(t, fmt.Sprint("ReadWorld of the id ", id), impl.ReadWorld(storyWorld(), 3, id), impl.ErrRange)
	}
	for _, w := range mutedWorlds() {
		for _, id := range []int64{5, 6} {
			wantAnswerCode(t, "ReadWorld of what nobody tells", impl.ReadWorld(w, 1, id), impl.ErrState)
		}
	}
}

// A query's fault is told ahead of a k that is not 0 to 20, and that ahead of a tail that is down, and of one that has more.
func TestWrongQueriesOfReads(t *testing.T) {
	ks := append(outOf(0, 20), 22, 1<<32+1, -1<<32+1, math.MinInt64+1)
	for _, w := range append(mutedWorlds(), storyWorld()) {
		for _, node := range []int64{1, 2} {
			for _, x := range wrongVecs() {
				for _, k := range append(ks, 0, 3, 20) {
					wantAnswerCode(t, fmt.Sprint("FindWorld of ", x.v), impl.FindWorld(w, node, x.v, k), x.code)
				}
			}
			for _, k := range ks {
				if k < 0 || k > 20 {
					wantAnswerCode(t, fmt.Sprint("FindWorld, k ", k), impl.FindWorld(w, node, []int64{1000, -1000, 0}, k), impl.ErrRange)
				}
			}
		}
	}
	for _, w := range mutedWorlds() {
		for k := range int64(21) {
			wantAnswerCode(t, "FindWorld of what nobody tells", impl.FindWorld(w, 1, []int64{1, 2, 3}, k), impl.ErrState)
		}
	}
}

// That there are all events is told ahead of a write without an entry, that ahead of one that is over, and that ahead of one that is not at the tail.
func TestWrongFinishes(t *testing.T) {
	w := storyWorld()
	w.History[1].End, w.History[6].End = 30, 31
	numbers := []int64{0, 1, 2, 3, 4, 5, 9, 10, 999, 1000, -1, 1 << 32, 1<<32 + 1, math.MinInt64, math.MaxInt64}
	for _, session := range numbers {
		for _, seq := range numbers {
			ended := w
			ended.Events = 9999
			wantWorldCode(t, "FinishWorld where there are 9999 events", impl.FinishWorld(ended, session, seq), impl.ErrMany)
			got, place := impl.FinishWorld(w, session, seq), notedAt(w, session, seq)
			switch {
			case place < 0:
				wantWorldCode(t, "FinishWorld of what has no entry", got, impl.ErrNone)
			case place == 1 || place == 6:
				wantWorldCode(t, "FinishWorld of what is over", got, impl.ErrTaken)
			case place >= 4:
				wantWorldCode(t, "FinishWorld of what is not at the tail", got, impl.ErrState)
			default:
				wantMoved(t, "FinishWorld", got, shouldFinish(w, session, seq).World)
			}
		}
	}
}

// An entry that was handed in may be of a session and a number that no write has: then it is there, but not at the tail.
func TestFinishesOfStrangeEntries(t *testing.T) {
	for _, x := range [][2]int64{{0, 0}, {10, 1}, {1, 1000}, {-1, 5}, {math.MinInt64, math.MaxInt64}, {1<<32 + 1, 1}} {
		w := storyWorld()
		wantWorldCode(t, "FinishWorld of what has no entry", impl.FinishWorld(w, x[0], x[1]), impl.ErrNone)
		w.History[2].Session, w.History[2].Seq = x[0], x[1]
		wantWorldCode(t, "FinishWorld of a strange entry", impl.FinishWorld(w, x[0], x[1]), impl.ErrState)
		w.History[2].End = 40
		wantWorldCode(t, "FinishWorld of a strange entry that is over", impl.FinishWorld(w, x[0], x[1]), impl.ErrTaken)
	}
}

// ownAnswers are answers of w, most of them without a code, with the query that was handed to them.
func ownAnswers(w impl.World, query []int64) map[string]impl.AnswerResult {
	answers := map[string]impl.AnswerResult{}
	for _, n := range w.Nodes {
		for _, id := range []int64{1, 5, 6, 999} {
			answers[fmt.Sprint("ReadWorld ", n.Id, " of ", id)] = impl.ReadWorld(w, n.Id, id)
		}
		for _, k := range []int64{0, 1, 20} {
			answers[fmt.Sprint("FindWorld ", n.Id, ", k ", k)] = impl.FindWorld(w, n.Id, query, k)
		}
	}
	return answers
}

func ownFinishes(w impl.World) map[string]impl.WorldResult {
	answers := map[string]impl.WorldResult{}
	for _, e := range w.History {
		answers[fmt.Sprint("FinishWorld ", e.Session, " ", e.Seq)] = impl.FinishWorld(w, e.Session, e.Seq)
	}
	return answers
}

// readWorlds are of all kinds, in which many may answer.
func readWorlds() []impl.World {
	list := []impl.World{storyWorld(), longWorld(), impl.NewWorld(1).World, leasedAt(5, 3, 9, 9)}
	for i, w := range ledWorlds() {
		if i%7 == 0 {
			list = append(list, w)
		}
	}
	return list
}

// P1: no argument is changed, not even what lies behind it, nor by a change of the answer; the answer is new memory, and what it says is not that of its entry.
func TestReadWorldsStay(t *testing.T) {
	met := map[string]int{}
	for _, was := range readWorlds() {
		w := roomyWorld(was)
		query := roomy(reflect.ValueOf([]int64{1, 2, 3})).Interface().([]int64)
		before := told(reflect.ValueOf(w)) + told(reflect.ValueOf(query))
		impl.MayAnswer(w, 1)
		state := impl.StateIn(w)
		wantOwnMemory(t, "StateIn", state, w)
		scribbled(reflect.ValueOf(&state).Elem())
		for what, got := range ownAnswers(w, query) {
			if len(got.Vec)+len(got.Hits) > 0 {
				met[what[:4]]++
			}
			wantOwnMemory(t, what, got, w, query)
			scribbled(reflect.ValueOf(&got).Elem())
		}
		for what, got := range ownFinishes(w) {
			if got.Moved {
				met["Finish"]++
			}
			wantOwnMemory(t, what, got, w)
			scribbleWorld(&got.World)
		}
		if after := told(reflect.ValueOf(w)) + told(reflect.ValueOf(query)); before != after {
			t.Fatalf("%s became %s", before, after)
		}
	}
	if met["Read"] < 5 || met["Find"] < 5 || met["Finish"] < 5 {
		t.Errorf("so many told something: %v", met)
	}
}

// P1: nor is an argument changed where there is a fault.
func TestWrongReadWorldsStay(t *testing.T) {
	for i, x := range wrongWorlds() {
		if i%29 == 0 {
			w := roomyWorld(x.w)
			before := told(reflect.ValueOf(w))
			answersOf(w, 2, 1, []int64{1, 2, 3})
			impl.FinishWorld(w, 1, 1)
			impl.StateIn(w)
			impl.MayAnswer(w, 2)
			if after := told(reflect.ValueOf(w)); before != after {
				t.Fatalf("%s became %s", before, after)
			}
		}
	}
	for _, v := range wrongVecs() {
		query := roomy(reflect.ValueOf(v.v)).Interface().([]int64)
		before := told(reflect.ValueOf(query))
		impl.FindWorld(storyWorld(), 1, query, 1)
		if after := told(reflect.ValueOf(query)); before != after {
			t.Fatalf("%s became %s", before, after)
		}
	}
}

// P1: the lists of an answer are apart also where those that were given were one, the query too.
func TestReadWorldsOfOneVector(t *testing.T) {
	one, writes := []int64{1, 2, 3}, []impl.Write{}
	for seq := int64(1); seq <= 6; seq++ {
		writes = append(writes, impl.Write{Kind: 1, Id: seq, Vec: one, Session: 1, Seq: seq})
	}
	w := impl.World{Events: 9, Chain: impl.Chain{Epoch: 1, Ids: one}}
	for id := int64(1); id <= 3; id++ {
		w.Nodes = append(w.Nodes, impl.Node{Id: id, Up: true, Epoch: 1, Writes: writes, Sure: 7 - id, Clean: 1})
	}
	w.History = []impl.Entry{{Kind: 2, Start: 1, Vec: one, Query: one}, {Kind: 1, Session: 1, Seq: 2, Start: 1, Vec: one, Query: one}}
	for what, got := range ownAnswers(w, one) {
		if got.Code != impl.OK || got.At != 4 {
			t.Fatalf("%s: %+v", what, got)
		}
		wantOwnMemory(t, what, got, w, one)
		scribbled(reflect.ValueOf(&got).Elem())
		if !slices.Equal(one, []int64{1, 2, 3}) {
			t.Fatalf("%s: what was given became %v", what, one)
		}
	}
	got := impl.FinishWorld(w, 1, 2)
	wantOwnMemory(t, "FinishWorld", got, w)
	wantMoved(t, "FinishWorld", got, shouldFinish(w, 1, 2).World)
}

// P1: an answer is the same whatever was called or changed ahead of it, also behind calls that told a code.
func TestReadWorldsAreNew(t *testing.T) {
	query := []int64{1, 2, 3}
	want, kept := ownAnswers(storyWorld(), query), ownAnswers(storyWorld(), query)
	for _, got := range ownAnswers(storyWorld(), query) {
		scribbled(reflect.ValueOf(&got).Elem())
	}
	spoiled, other := storyWorld(), slices.Clone(query)
	again := ownAnswers(spoiled, other)
	scribbleWorld(&spoiled)
	scribbleInts(other)
	for what, got := range want {
		if !alikeAnswer(kept[what], got) || !alikeAnswer(again[what], got) {
			t.Errorf("%s: %+v became %+v and %+v", what, got, kept[what], again[what])
		}
	}
}

// P1: two answers from one world stay apart, also where each has one entry more.
func TestReadWorldsThatPart(t *testing.T) {
	w := impl.ReadWorld(storyWorld(), 1, 6).World
	was := cloneWorld(w)
	left, right := impl.ReadWorld(w, 2, 6), impl.FindWorld(w, 3, []int64{1, 1, 1}, 2)
	finished := impl.FinishWorld(w, 1, 1)
	wantAnswer(t, "ReadWorld", left, shouldRead(was, 2, 6))
	wantAnswer(t, "FindWorld", right, shouldFind(was, 3, []int64{1, 1, 1}, 2))
	wantStep(t, "FinishWorld", finished, shouldFinish(was, 1, 1))
	wantAnswer(t, "ReadWorld", impl.ReadWorld(left.World, 1, 7), shouldRead(shouldRead(was, 2, 6).World, 1, 7))
	wantAnswer(t, "ReadWorld", impl.ReadWorld(right.World, 1, 7), shouldRead(shouldFind(was, 3, []int64{1, 1, 1}, 2).World, 1, 7))
	if !alikeWorld(w, was) {
		t.Errorf("%+v became %+v", was, w)
	}
}

// P1: calls at the same time keep nothing that another one could see, also where some of them tell a code (a run with -race tells of it as well).
func TestReadsBesideOneAnother(t *testing.T) {
	done := make(chan bool)
	shared, query := storyWorld(), []int64{3, 0, 1}
	state := itemsBy(committedOf(shared))
	for worker := range int64(8) {
		node, id := 1+worker%5, 4+worker
		read, find, finish := shouldRead(storyWorld(), node, id), shouldFind(storyWorld(), node, query, worker), shouldFinish(storyWorld(), 1+worker%3, 1+worker%2)
		may := shouldMay(storyWorld(), node)
		go func() {
			right := true
			for range 60 {
				right = right && alikeAnswer(impl.ReadWorld(shared, node, id), read) && alikeAnswer(impl.FindWorld(shared, node, query, worker), find)
				right = right && alikeStep(impl.FinishWorld(shared, 1+worker%3, 1+worker%2), finish)
				right = right && impl.MayAnswer(shared, node) == may && alikeItems(impl.StateIn(shared).Items, state)
			}
			done <- right
		}()
	}
	for range 8 {
		if !<-done {
			t.Error("a call answered otherwise beside others")
		}
	}
}
