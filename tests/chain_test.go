package tests

import (
	"fmt"
	"math/rand"
	"slices"
	"strings"
	"testing"

	"loop.example/g00357/impl"
)

func chainOf(epoch int64, ids ...int64) impl.Chain {
	return impl.Chain{Epoch: epoch, Ids: ids}
}

// alikeChain takes no Ids and a list without any for the same.
func alikeChain(a, b impl.Chain) bool {
	return a.Epoch == b.Epoch && slices.Equal(a.Ids, b.Ids)
}

func wantChain(t *testing.T, what string, got impl.ChainResult, want impl.Chain) {
	t.Helper()
	if got.Code != impl.OK || !alikeChain(got.Chain, want) {
		t.Fatalf("%s: %+v, want %+v", what, got, want)
	}
	if code := impl.ChainFault(got.Chain); code != impl.OK {
		t.Fatalf("%s: %+v has the fault %d", what, got.Chain, code)
	}
}

func wantTextOf(t *testing.T, what string, got impl.TextResult, want string) {
	t.Helper()
	if got.Code != impl.OK || got.Text != want {
		t.Fatalf("%s: %+v, want %q", what, got, want)
	}
}

// allOrders are all lists of 1 to 5 Ids, each there at most once: 325 of them.
func allOrders() [][]int64 {
	var all [][]int64
	from := [][]int64{nil}
	for range 5 {
		var longer [][]int64
		for _, ids := range from {
			for id := int64(1); id <= 5; id++ {
				if !slices.Contains(ids, id) {
					longer = append(longer, append(slices.Clone(ids), id))
				}
			}
		}
		all = append(all, longer...)
		from = longer
	}
	return all
}

// allChains are all chains of the Epochs at which something turns.
func allChains() []impl.Chain {
	var list []impl.Chain
	for _, epoch := range []int64{1, 2, 9, 10, 99, 100, 500, 997, 998, 999} {
		for _, ids := range allOrders() {
			list = append(list, chainOf(epoch, ids...))
		}
	}
	return list
}

// withoutId goes through ids one by one; the others stay in their order.
func withoutId(ids []int64, id int64) []int64 {
	var left []int64
	for _, one := range ids {
		if one != id {
			left = append(left, one)
		}
	}
	return left
}

func withId(ids []int64, id int64) []int64 {
	return append(slices.Clone(ids), id)
}

func TestChainsOfExamples(t *testing.T) {
	c := impl.NewChain(3)
	wantChain(t, "NewChain", c, chainOf(1, 1, 2, 3))
	wantInt(t, "NextIn of the head", impl.NextIn(c.Chain, 1), 2)
	wantInt(t, "NextIn", impl.NextIn(c.Chain, 2), 3)
	wantInt(t, "PrevIn", impl.PrevIn(c.Chain, 2), 1)
	wantInt(t, "PrevIn of the tail", impl.PrevIn(c.Chain, 3), 2)
	wantIntCode(t, "NextIn of the tail", impl.NextIn(c.Chain, 3), impl.ErrState)
	wantIntCode(t, "PrevIn of the head", impl.PrevIn(c.Chain, 1), impl.ErrState)
	wantIntCode(t, "NextIn of none", impl.NextIn(c.Chain, 4), impl.ErrNone)
	wantIntCode(t, "PrevIn of none", impl.PrevIn(c.Chain, 4), impl.ErrNone)
	wantTextOf(t, "ChainText", impl.ChainText(c.Chain), "epoch 1 : 1 2 3")
	cut := impl.CutChain(c.Chain, 2)
	wantChain(t, "CutChain", cut, chainOf(2, 1, 3))
	wantInt(t, "NextIn behind a cut", impl.NextIn(cut.Chain, 1), 3)
	wantIntCode(t, "NextIn of one that was cut", impl.NextIn(cut.Chain, 2), impl.ErrNone)
	joined := impl.JoinChain(cut.Chain, 2)
	wantChain(t, "JoinChain", joined, chainOf(3, 1, 3, 2))
	wantInt(t, "NextIn behind a join", impl.NextIn(joined.Chain, 3), 2)
	wantTextOf(t, "ChainText", impl.ChainText(joined.Chain), "epoch 3 : 1 3 2")
	wantChain(t, "JoinChain of one that is new", impl.JoinChain(c.Chain, 5), chainOf(2, 1, 2, 3, 5))
	wantChain(t, "CutChain of the head", impl.CutChain(c.Chain, 1), chainOf(2, 2, 3))
	wantChain(t, "CutChain of the tail", impl.CutChain(c.Chain, 3), chainOf(2, 1, 2))
}

func TestNewChains(t *testing.T) {
	for n, want := range [][]int64{nil, {1}, {1, 2}, {1, 2, 3}, {1, 2, 3, 4}, {1, 2, 3, 4, 5}} {
		if n > 0 {
			wantChain(t, "NewChain", impl.NewChain(int64(n)), chainOf(1, want...))
		}
	}
}

// A chain of one: it is the head and the tail, has nobody beside it, and cannot be cut; another one may join.
func TestChainsOfOne(t *testing.T) {
	for id := int64(1); id <= 5; id++ {
		for _, epoch := range []int64{1, 2, 998} {
			c := chainOf(epoch, id)
			wantIntCode(t, "NextIn of the only one", impl.NextIn(c, id), impl.ErrState)
			wantIntCode(t, "PrevIn of the only one", impl.PrevIn(c, id), impl.ErrState)
			wantChainCode(t, "CutChain of the only one", impl.CutChain(c, id), impl.ErrState)
			for other := int64(1); other <= 5; other++ {
				if other != id {
					wantChain(t, "JoinChain", impl.JoinChain(c, other), chainOf(epoch+1, id, other))
					wantIntCode(t, "NextIn of none", impl.NextIn(c, other), impl.ErrNone)
					wantIntCode(t, "PrevIn of none", impl.PrevIn(c, other), impl.ErrNone)
					wantChainCode(t, "CutChain of none", impl.CutChain(c, other), impl.ErrNone)
				}
			}
			wantTextOf(t, "ChainText of one", impl.ChainText(c), fmt.Sprintf("epoch %d : %d", epoch, id))
		}
	}
}

// A chain of all nodes: nobody is left to join it.
func TestChainsOfAll(t *testing.T) {
	c := impl.NewChain(5).Chain
	wantTextOf(t, "ChainText of five", impl.ChainText(c), "epoch 1 : 1 2 3 4 5")
	for id := int64(1); id <= 5; id++ {
		wantChainCode(t, "JoinChain of one that is there", impl.JoinChain(c, id), impl.ErrTaken)
		wantChain(t, "CutChain", impl.CutChain(c, id), chainOf(2, withoutId(c.Ids, id)...))
	}
}

func TestChainTexts(t *testing.T) {
	for _, x := range []struct {
		c    impl.Chain
		text string
	}{
		{chainOf(1, 1), "epoch 1 : 1"},
		{chainOf(10, 5), "epoch 10 : 5"},
		{chainOf(998, 5, 1), "epoch 998 : 5 1"},
		{chainOf(999, 3), "epoch 999 : 3"},
		{chainOf(999, 5, 4, 3, 2, 1), "epoch 999 : 5 4 3 2 1"},
		{chainOf(100, 2, 4, 1, 5, 3), "epoch 100 : 2 4 1 5 3"},
	} {
		wantTextOf(t, "ChainText", impl.ChainText(x.c), x.text)
	}
	for _, c := range allChains() {
		wantTextOf(t, "ChainText", impl.ChainText(c), fmt.Sprintf("epoch %d : %s", c.Epoch, strings.Trim(fmt.Sprint(c.Ids), "[]")))
	}
}

// All chains, and all epochs, are without a fault.
func TestChainsWithoutFault(t *testing.T) {
	for _, c := range allChains() {
		if code := impl.ChainFault(c); code != impl.OK {
			t.Fatalf("ChainFault(%+v) = %d", c, code)
		}
	}
	for epoch := int64(1); epoch <= 999; epoch++ {
		if code := impl.ChainFault(chainOf(epoch, 4, 2)); code != impl.OK {
			t.Fatalf("ChainFault of the Epoch %d = %d", epoch, code)
		}
	}
}

func TestBesideInAllChains(t *testing.T) {
	for _, c := range allChains() {
		for place, id := range c.Ids {
			if place+1 < len(c.Ids) {
				wantInt(t, "NextIn", impl.NextIn(c, id), c.Ids[place+1])
			} else {
				wantIntCode(t, "NextIn of the tail", impl.NextIn(c, id), impl.ErrState)
			}
			if place > 0 {
				wantInt(t, "PrevIn", impl.PrevIn(c, id), c.Ids[place-1])
			} else {
				wantIntCode(t, "PrevIn of the head", impl.PrevIn(c, id), impl.ErrState)
			}
		}
	}
}

// P11: who is behind one has it ahead, and who is ahead of one has it behind.
func TestWhoIsBehindHasItAhead(t *testing.T) {
	for _, c := range allChains() {
		for id := int64(1); id <= 5; id++ {
			if next := impl.NextIn(c, id); next.Code == impl.OK {
				wantInt(t, "PrevIn of NextIn", impl.PrevIn(c, next.Value), id)
			}
			if prev := impl.PrevIn(c, id); prev.Code == impl.OK {
				wantInt(t, "NextIn of PrevIn", impl.NextIn(c, prev.Value), id)
			}
		}
	}
}

// walked goes from one on, as far as there is one beside it, but not for ever.
func walked(c impl.Chain, id int64, beside func(impl.Chain, int64) impl.IntResult) []int64 {
	ids := []int64{id}
	for range 9 {
		got := beside(c, ids[len(ids)-1])
		if got.Code != impl.OK {
			break
		}
		ids = append(ids, got.Value)
	}
	return ids
}

// P11: from the head on all are met, each once, and from the tail on the same ones backwards.
func TestChainsAreWalked(t *testing.T) {
	for _, c := range allChains() {
		if got := walked(c, c.Ids[0], impl.NextIn); !slices.Equal(got, c.Ids) {
			t.Fatalf("%+v is walked as %v", c, got)
		}
		got := walked(c, c.Ids[len(c.Ids)-1], impl.PrevIn)
		slices.Reverse(got)
		if !slices.Equal(got, c.Ids) {
			t.Fatalf("%+v is walked backwards as %v", c, got)
		}
	}
}

// What is cut is gone, the others stay in their order, and the Epoch is the next one.
func TestCutsOfAllChains(t *testing.T) {
	for _, c := range allChains() {
		if len(c.Ids) == 1 || c.Epoch == 999 {
			continue
		}
		for _, id := range c.Ids {
			got := impl.CutChain(c, id)
			wantChain(t, "CutChain", got, chainOf(c.Epoch+1, withoutId(c.Ids, id)...))
			wantIntCode(t, "NextIn of one that was cut", impl.NextIn(got.Chain, id), impl.ErrNone)
			wantIntCode(t, "PrevIn of one that was cut", impl.PrevIn(got.Chain, id), impl.ErrNone)
		}
	}
}

// Who joins is the tail, behind the one that was it, and the Epoch is the next one.
func TestJoinsOfAllChains(t *testing.T) {
	for _, c := range allChains() {
		if c.Epoch == 999 {
			continue
		}
		for id := int64(1); id <= 5; id++ {
			if slices.Contains(c.Ids, id) {
				continue
			}
			got := impl.JoinChain(c, id)
			wantChain(t, "JoinChain", got, chainOf(c.Epoch+1, withId(c.Ids, id)...))
			wantInt(t, "NextIn of the tail that was", impl.NextIn(got.Chain, c.Ids[len(c.Ids)-1]), id)
			wantIntCode(t, "NextIn of the tail", impl.NextIn(got.Chain, id), impl.ErrState)
		}
	}
}

// P11: a chain that is cut and joined again has all.
func TestCutAndJoinedHasAll(t *testing.T) {
	for _, c := range allChains() {
		if len(c.Ids) == 1 || c.Epoch > 997 {
			continue
		}
		for _, id := range c.Ids {
			got := impl.JoinChain(impl.CutChain(c, id).Chain, id)
			wantChain(t, "CutChain, then JoinChain", got, chainOf(c.Epoch+2, withId(withoutId(c.Ids, id), id)...))
			if !slices.Equal(slices.Sorted(slices.Values(got.Chain.Ids)), slices.Sorted(slices.Values(c.Ids))) {
				t.Fatalf("%+v has not all of %+v", got, c)
			}
		}
	}
}

// P11: each is cut in its turn and joined again, and all are there in the order in which they were.
func TestAllAreCutAndJoined(t *testing.T) {
	for n := int64(2); n <= 5; n++ {
		was := impl.NewChain(n).Chain
		c := was
		for _, id := range was.Ids {
			c = impl.JoinChain(impl.CutChain(c, id).Chain, id).Chain
		}
		if want := chainOf(1+2*n, was.Ids...); !alikeChain(c, want) {
			t.Errorf("%+v, want %+v", c, want)
		}
	}
}

// Epochs end at 999: a chain comes there, and is then asked, but changed no more.
func TestEpochsEnd(t *testing.T) {
	for _, ids := range allOrders() {
		last := chainOf(999, ids...)
		for id := int64(1); id <= 5; id++ {
			switch there := slices.Contains(ids, id); {
			case there && len(ids) == 1:
				wantChainCode(t, "CutChain of the only one of Epoch 999", impl.CutChain(last, id), impl.ErrState)
			case there:
				wantChainCode(t, "CutChain of Epoch 999", impl.CutChain(last, id), impl.ErrMany)
				wantChain(t, "CutChain of Epoch 998", impl.CutChain(chainOf(998, ids...), id), chainOf(999, withoutId(ids, id)...))
			default:
				wantChainCode(t, "JoinChain of Epoch 999", impl.JoinChain(last, id), impl.ErrMany)
				wantChain(t, "JoinChain of Epoch 998", impl.JoinChain(chainOf(998, ids...), id), chainOf(999, withId(ids, id)...))
			}
		}
	}
}

// stepOfChain is a cut or a join, whichever may be done of id, and what it should be.
func stepOfChain(c impl.Chain, id int64) (impl.ChainResult, impl.Chain) {
	if slices.Contains(c.Ids, id) {
		return impl.CutChain(c, id), chainOf(c.Epoch+1, withoutId(c.Ids, id)...)
	}
	return impl.JoinChain(c, id), chainOf(c.Epoch+1, withId(c.Ids, id)...)
}

// From a new chain to the last Epoch: exactly 998 changes, each held against what it should be.
func TestChainsOfManySteps(t *testing.T) {
	from := rand.New(rand.NewSource(31))
	for n := int64(1); n <= 5; n++ {
		c, steps := impl.NewChain(n).Chain, 0
		for c.Epoch < 999 {
			id := 1 + from.Int63n(5)
			if len(c.Ids) == 1 && c.Ids[0] == id {
				wantChainCode(t, "CutChain of the only one", impl.CutChain(c, id), impl.ErrState)
				continue
			}
			got, want := stepOfChain(c, id)
			wantChain(t, "a step", got, want)
			c, steps = got.Chain, steps+1
		}
		if steps != 998 {
			t.Errorf("%d steps up to the last Epoch", steps)
		}
	}
}

// P1: what is asked again is answered again.
func TestChainsAnswerAgain(t *testing.T) {
	c := chainOf(7, 4, 2, 5)
	for range 3 {
		wantChain(t, "CutChain", impl.CutChain(c, 2), chainOf(8, 4, 5))
		wantChain(t, "JoinChain", impl.JoinChain(c, 1), chainOf(8, 4, 2, 5, 1))
		wantInt(t, "NextIn", impl.NextIn(c, 4), 2)
		wantInt(t, "PrevIn", impl.PrevIn(c, 5), 2)
		wantTextOf(t, "ChainText", impl.ChainText(c), "epoch 7 : 4 2 5")
		wantChain(t, "NewChain", impl.NewChain(2), chainOf(1, 1, 2))
	}
}
