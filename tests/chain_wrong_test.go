package tests

import (
	"fmt"
	"math"
	"slices"
	"testing"

	"loop.example/g00357/impl"
)

func wantChainCode(t *testing.T, what string, got impl.ChainResult, code int64) {
	t.Helper()
	if got.Code != code || !alikeChain(got.Chain, impl.Chain{}) {
		t.Fatalf("%s: %+v, want the code %d alone", what, got, code)
	}
}

// wrongChain is no chain, and has the code that is named first of it.
type wrongChain struct {
	c    impl.Chain
	code int64
}

func wrongEpochs() []int64 {
	return append(outOf(1, 999), -999, 9999, 1<<32+1, -1<<32+1)
}

// wrongIdLists are no Ids of a chain, each with its code: the number is asked first, then one by one the bounds and whether it is there.
func wrongIdLists() []wrongChain {
	list := []wrongChain{
		{chainOf(1), impl.ErrMany},
		{chainOf(1, []int64{}...), impl.ErrMany},
		{chainOf(1, 1, 2, 3, 4, 5, 6), impl.ErrMany},
		{chainOf(1, 1, 2, 3, 4, 5, 1), impl.ErrMany},
		{chainOf(1, 0, 0, 0, 0, 0, 0), impl.ErrMany},
		{chainOf(1, make([]int64, 1000)...), impl.ErrMany},
		{chainOf(1, 2, 2), impl.ErrTaken},
		{chainOf(1, 1, 2, 3, 4, 1), impl.ErrTaken},
		{chainOf(1, 1, 2, 3, 4, 4), impl.ErrTaken},
		{chainOf(1, 3, 1, 3), impl.ErrTaken},
		{chainOf(1, 5, 5, 5, 5, 5), impl.ErrTaken},
		{chainOf(1, 2, 2, 6), impl.ErrTaken},
		{chainOf(1, 2, 1, 2, 0), impl.ErrTaken},
		{chainOf(1, 2, 6, 2), impl.ErrRange},
		{chainOf(1, 6, 2, 2), impl.ErrRange},
		{chainOf(1, 0, 0), impl.ErrRange},
		{chainOf(1, 6, 6), impl.ErrRange},
	}
	for _, id := range outOfNode() {
		for place := range 5 {
			ids := []int64{3, 1, 5, 2, 4}
			ids[place] = id
			list = append(list, wrongChain{chainOf(1, ids...), impl.ErrRange})
		}
		list = append(list, wrongChain{chainOf(1, id), impl.ErrRange})
	}
	return list
}

// wrongChains have wrong Ids, or a wrong Epoch, which is asked ahead of all Ids.
func wrongChains() []wrongChain {
	var list []wrongChain
	for _, x := range wrongIdLists() {
		for _, epoch := range []int64{1, 2, 998, 999} {
			list = append(list, wrongChain{chainOf(epoch, x.c.Ids...), x.code})
		}
	}
	for _, epoch := range wrongEpochs() {
		list = append(list, wrongChain{chainOf(epoch, 1), impl.ErrRange}, wrongChain{chainOf(epoch, 2, 3, 1, 5, 4), impl.ErrRange})
		for _, x := range wrongIdLists() {
			list = append(list, wrongChain{chainOf(epoch, x.c.Ids...), impl.ErrRange})
		}
	}
	return append(list, wrongChain{impl.Chain{}, impl.ErrRange})
}

// anyIds are ids as they may be asked for: in a chain, out of it, and out of bounds.
func anyIds() []int64 {
	return append(outOfNode(), 1, 2, 3, 4, 5)
}

// A chain's own fault is asked ahead of whatever is wrong with the id.
func TestWrongChains(t *testing.T) {
	for _, x := range wrongChains() {
		what := fmt.Sprintf("of %+v", x.c)
		if code := impl.ChainFault(x.c); code != x.code {
			t.Fatalf("ChainFault %s = %d, want %d", what, code, x.code)
		}
		if got := impl.ChainText(x.c); got != (impl.TextResult{Code: x.code}) {
			t.Fatalf("ChainText %s: %+v, want the code %d alone", what, got, x.code)
		}
		for _, id := range anyIds() {
			wantIntCode(t, "NextIn "+what, impl.NextIn(x.c, id), x.code)
			wantIntCode(t, "PrevIn "+what, impl.PrevIn(x.c, id), x.code)
			wantChainCode(t, "CutChain "+what, impl.CutChain(x.c, id), x.code)
			wantChainCode(t, "JoinChain "+what, impl.JoinChain(x.c, id), x.code)
		}
	}
}

// faultOfIds goes by counts, not as the program does: one by one, what is first.
func faultOfIds(ids []int64) int64 {
	if len(ids) == 0 || len(ids) > 5 {
		return impl.ErrMany
	}
	var seen [6]int
	for _, id := range ids {
		if id < 1 || id > 5 {
			return impl.ErrRange
		}
		if seen[id]++; seen[id] > 1 {
			return impl.ErrTaken
		}
	}
	return impl.OK
}

// All lists of up to six of the numbers 0 to 6.
func TestFaultsOfAllShortLists(t *testing.T) {
	lists := [][]int64{nil}
	for from := 0; from < len(lists); from++ {
		ids := lists[from]
		if code := impl.ChainFault(chainOf(5, ids...)); code != faultOfIds(ids) {
			t.Fatalf("ChainFault of %v = %d, want %d", ids, code, faultOfIds(ids))
		}
		if len(ids) < 6 {
			for id := range int64(7) {
				lists = append(lists, append(slices.Clone(ids), id))
			}
		}
	}
}

func TestWrongNewChains(t *testing.T) {
	for _, n := range append(outOfNode(), 40, 200, 999, math.MinInt64+1) {
		wantChainCode(t, "NewChain", impl.NewChain(n), impl.ErrRange)
	}
}

// An id that is not in the chain is none, also one that is out of bounds, and ahead of all that is asked of the chain then.
func TestIdsThatAreNotInChains(t *testing.T) {
	for _, c := range allChains() {
		for _, id := range anyIds() {
			if !slices.Contains(c.Ids, id) {
				wantIntCode(t, "NextIn of none", impl.NextIn(c, id), impl.ErrNone)
				wantIntCode(t, "PrevIn of none", impl.PrevIn(c, id), impl.ErrNone)
				wantChainCode(t, "CutChain of none", impl.CutChain(c, id), impl.ErrNone)
			}
		}
	}
}

// Bounds are asked first, then whether it is there, and the end of epochs last.
func TestWrongJoins(t *testing.T) {
	for _, c := range allChains() {
		for _, id := range outOfNode() {
			wantChainCode(t, "JoinChain, id out of bounds", impl.JoinChain(c, id), impl.ErrRange)
		}
		for _, id := range c.Ids {
			wantChainCode(t, "JoinChain of one that is there", impl.JoinChain(c, id), impl.ErrTaken)
		}
	}
	wantChainCode(t, "JoinChain of Epoch 999", impl.JoinChain(chainOf(999, 1), 2), impl.ErrMany)
	wantChainCode(t, "JoinChain of Epoch 999, id out of bounds", impl.JoinChain(chainOf(999, 1), 6), impl.ErrRange)
	wantChainCode(t, "JoinChain of Epoch 999 of one that is there", impl.JoinChain(chainOf(999, 1), 1), impl.ErrTaken)
}

// Whether it is there is asked first, then whether it is the only one, and the end of epochs last.
func TestWrongCuts(t *testing.T) {
	wantChainCode(t, "CutChain of Epoch 999", impl.CutChain(chainOf(999, 1, 2), 2), impl.ErrMany)
	wantChainCode(t, "CutChain of Epoch 999, all nodes", impl.CutChain(chainOf(999, 5, 4, 3, 2, 1), 5), impl.ErrMany)
	wantChainCode(t, "CutChain of Epoch 999, the only one", impl.CutChain(chainOf(999, 2), 2), impl.ErrState)
	wantChainCode(t, "CutChain of Epoch 999, none", impl.CutChain(chainOf(999, 1, 2), 3), impl.ErrNone)
	wantChainCode(t, "CutChain of the only one, another", impl.CutChain(chainOf(1, 2), 3), impl.ErrNone)
	wantChainCode(t, "CutChain, id out of bounds", impl.CutChain(chainOf(1, 2), 0), impl.ErrNone)
}

// askChain calls all functions with a chain, and writes over all that they answer.
func askChain(c impl.Chain, id int64) {
	impl.ChainFault(c)
	impl.NextIn(c, id)
	impl.PrevIn(c, id)
	impl.ChainText(c)
	for _, ids := range [][]int64{impl.NewChain(id).Chain.Ids, impl.CutChain(c, id).Chain.Ids, impl.JoinChain(c, id).Chain.Ids} {
		scribbleInts(ids)
		scribbleInts(ids[:cap(ids)])
	}
}

// P1: no argument is changed, not even what lies behind it, nor by a change of the answer.
func TestChainsStay(t *testing.T) {
	list := allChains()
	for _, x := range wrongChains() {
		list = append(list, x.c)
	}
	for _, was := range list {
		ids, room := spareOf(was.Ids)
		wasRoom := slices.Clone(room)
		for _, id := range anyIds() {
			askChain(chainOf(was.Epoch, ids...), id)
		}
		if !slices.Equal(room, wasRoom) {
			t.Fatalf("%+v was changed to %v", was, room)
		}
	}
}

// chainsFrom are all answers with a chain: of arguments that are made anew, and what is called once the answers are there, to change all that was given.
func chainsFrom() (answers map[string]impl.Chain, spoil func()) {
	room := []int64{4, 2, 5, 1, 3}
	three, all := chainOf(7, room[:3]...), chainOf(998, room...)
	answers = map[string]impl.Chain{
		"NewChain of one":               impl.NewChain(1).Chain,
		"NewChain of five":              impl.NewChain(5).Chain,
		"CutChain of the head":          impl.CutChain(three, 4).Chain,
		"CutChain in between":           impl.CutChain(three, 2).Chain,
		"CutChain of the tail":          impl.CutChain(three, 5).Chain,
		"CutChain of all, the head":     impl.CutChain(all, 4).Chain,
		"CutChain of all, the tail":     impl.CutChain(all, 3).Chain,
		"CutChain of two, the head":     impl.CutChain(chainOf(1, room[:2]...), 4).Chain,
		"CutChain of two, the tail":     impl.CutChain(chainOf(1, room[:2]...), 2).Chain,
		"JoinChain, with room behind":   impl.JoinChain(three, 3).Chain,
		"JoinChain, as it stood behind": impl.JoinChain(three, 1).Chain,
		"JoinChain to one":              impl.JoinChain(chainOf(2, room[:1]...), 1).Chain,
		"JoinChain to four":             impl.JoinChain(chainOf(2, room[:4]...), 3).Chain,
	}
	return answers, func() { scribbleInts(room) }
}

// P1: an answer stays as it is, whatever becomes of the arguments that it came from.
func TestChainsAreNotShared(t *testing.T) {
	want, _ := chainsFrom()
	got, spoil := chainsFrom()
	spoil()
	for what, c := range got {
		if len(c.Ids) == 0 || !alikeChain(c, want[what]) {
			t.Errorf("%s: %+v became %+v by a change of what was given", what, want[what], c)
		}
	}
}

// P1: each answer is new memory, and the same whatever was called or changed ahead of it.
func TestChainsAreNew(t *testing.T) {
	want, _ := chainsFrom()
	first, _ := chainsFrom()
	kept, _ := chainsFrom()
	for _, c := range first {
		scribbleInts(c.Ids[:cap(c.Ids)])
	}
	impl.CutChain(chainOf(999, 1, 2), 1)
	impl.JoinChain(chainOf(3, 1, 2), 2)
	again, _ := chainsFrom()
	for what, c := range want {
		if !alikeChain(kept[what], c) || !alikeChain(again[what], c) {
			t.Errorf("%s: %+v became %+v and %+v by a change of another answer", what, c, kept[what], again[what])
		}
	}
}

// P1: two answers from one chain stay apart, also where each has one more.
func TestChainsThatPart(t *testing.T) {
	for _, c := range []impl.Chain{impl.NewChain(2).Chain, impl.CutChain(impl.NewChain(3).Chain, 3).Chain, impl.JoinChain(impl.NewChain(1).Chain, 2).Chain} {
		was := chainOf(c.Epoch, slices.Clone(c.Ids)...)
		left, right, cut := impl.JoinChain(c, 4), impl.JoinChain(c, 5), impl.CutChain(c, 1)
		wantChain(t, "JoinChain", left, chainOf(was.Epoch+1, 1, 2, 4))
		wantChain(t, "JoinChain", right, chainOf(was.Epoch+1, 1, 2, 5))
		wantChain(t, "CutChain", cut, chainOf(was.Epoch+1, 2))
		if !alikeChain(c, was) {
			t.Errorf("%+v became %+v", was, c)
		}
	}
}

// P1: calls at the same time keep nothing that another one could see (a run with -race tells of it as well).
func TestChainsBesideOneAnother(t *testing.T) {
	done := make(chan bool)
	shared := chainOf(5, 3, 1, 4, 2)
	for worker := range 8 {
		id := shared.Ids[worker%4]
		cut := chainOf(6, withoutId(shared.Ids, id)...)
		go func() {
			right := true
			for range 500 {
				got := impl.CutChain(shared, id)
				right = right && alikeChain(got.Chain, cut) && alikeChain(impl.JoinChain(got.Chain, id).Chain, chainOf(7, withId(cut.Ids, id)...))
				right = right && impl.NextIn(shared, 3).Value == 1 && impl.PrevIn(shared, 2).Value == 4 && alikeChain(impl.JoinChain(shared, 5).Chain, chainOf(6, 3, 1, 4, 2, 5))
				right = right && impl.ChainText(shared).Text == "epoch 5 : 3 1 4 2" && len(impl.NewChain(int64(worker%5+1)).Chain.Ids) == worker%5+1
			}
			done <- right
		}()
	}
	for range 8 {
		if !<-done {
			t.Error("a call answered otherwise beside others")
		}
	}
}
