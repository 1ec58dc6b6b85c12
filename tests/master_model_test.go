package tests

import (
	"math/rand"
	"slices"
	"testing"

	"loop.example/g00357/impl"
)

// What each function of the master should answer, worked out apart from the program, and worlds as they come of many steps and turns.

func shouldTick(w impl.World, n int64) impl.WorldResult {
	if code := aheadOf(w); code != impl.OK {
		return codeAlone(code)
	}
	if n < 0 || n > 100 || n > 9000-w.Now {
		return codeAlone(impl.ErrRange)
	}
	next := eventOf(w)
	next.Now = w.Now + n
	return impl.WorldResult{Moved: n != 0, World: next}
}

func shouldBeat(w impl.World, id int64) impl.WorldResult {
	if code := aheadOf(w, id); code != impl.OK {
		return codeAlone(code)
	}
	if !memberOf(w, id) {
		return codeAlone(impl.ErrDown)
	}
	n := nodeIn(w, id)
	n.Lease = w.Now + 4
	return movedTo(eventOf(withNode(w, n)))
}

func shouldRemove(w impl.World, id int64) impl.WorldResult {
	if code := aheadOf(w, id); code != impl.OK {
		return codeAlone(code)
	}
	switch n := nodeIn(w, id); {
	case !slices.Contains(w.Chain.Ids, id):
		return codeAlone(impl.ErrNone)
	case len(w.Chain.Ids) == 1:
		return codeAlone(impl.ErrState)
	case w.Chain.Epoch == 999:
		return codeAlone(impl.ErrMany)
	case n.Up && n.Lease >= w.Now:
		return codeAlone(impl.ErrLease)
	default:
		return movedTo(eventOf(cutBy(w, id)))
	}
}

func shouldJoin(w impl.World, id int64) impl.WorldResult {
	if code := aheadOf(w, id); code != impl.OK {
		return codeAlone(code)
	}
	switch n := nodeIn(w, id); {
	case slices.Contains(w.Chain.Ids, id):
		return codeAlone(impl.ErrTaken)
	case w.Chain.Epoch == 999:
		return codeAlone(impl.ErrMany)
	case !n.Up || !memberOf(w, lastId(w)):
		return codeAlone(impl.ErrDown)
	default:
		return movedTo(eventOf(joinedBy(w, id)))
	}
}

func shouldLose(w impl.World, at int64) impl.WorldResult {
	if code := aheadOf(w); code != impl.OK {
		return codeAlone(code)
	}
	if at < 0 || at >= int64(len(w.Msgs)) {
		return codeAlone(impl.ErrRange)
	}
	next := eventOf(w)
	next.Msgs = withoutPlace(next.Msgs, at)
	return movedTo(next)
}

// committedOf are the writes that are at the tail.
func committedOf(w impl.World) []impl.Write {
	tail := nodeIn(w, lastId(w))
	return tail.Writes[:tail.Sure]
}

func wantCommitted(t *testing.T, what string, w impl.World) {
	t.Helper()
	got := impl.CommittedIn(w)
	if want := int64(len(committedOf(w))); got != (impl.IntResult{Value: want}) {
		t.Fatalf("%s: %+v are at the tail of %+v, want %d", what, got, w, want)
	}
}

// someSpan is most often short, so that leases run as well as they are over.
func someSpan(from *rand.Rand) int64 {
	if from.Intn(12) == 0 {
		return []int64{-1, 100, 101}[from.Intn(3)]
	}
	return from.Int63n(4)
}

// someTurn is a turn of the master that from picks: what it is, what the program answers to it, and what it should.
func someTurn(from *rand.Rand, w impl.World) (what string, got, want impl.WorldResult) {
	id := someId(from, w)
	switch pick := from.Intn(12); {
	case pick < 3:
		n := someSpan(from)
		return "TickWorld", impl.TickWorld(w, n), shouldTick(w, n)
	case pick < 6:
		return "BeatWorld", impl.BeatWorld(w, id), shouldBeat(w, id)
	case pick < 8:
		return "RemoveWorld", impl.RemoveWorld(w, id), shouldRemove(w, id)
	case pick < 10:
		return "JoinWorld", impl.JoinWorld(w, id), shouldJoin(w, id)
	default:
		at := int64(len(w.Msgs)) - from.Int63n(4)
		return "LoseWorld", impl.LoseWorld(w, at), shouldLose(w, at)
	}
}

// someMove is a step of one of them, or a turn of the master.
func someMove(from *rand.Rand, w impl.World) (what string, got, want impl.WorldResult) {
	if from.Intn(3) == 0 {
		return someTurn(from, w)
	}
	return someStep(from, w)
}

// lateWorld is longWorld when all leases are over.
func lateWorld() impl.World {
	w := longWorld()
	w.Now = 82
	return w
}

// ledWorlds are new ones, and such as come of many steps and turns; the same ones at each run.
func ledWorlds() []impl.World {
	from := rand.New(rand.NewSource(61))
	list := []impl.World{longWorld(), lateWorld(), fullWorld()}
	for n := int64(1); n <= 5; n++ {
		list = append(list, impl.NewWorld(n).World)
		for range 8 {
			w := impl.NewWorld(n).World
			for i := range 160 {
				if _, _, want := someMove(from, w); want.Code == impl.OK {
					w = want.World
				}
				if i%16 == 15 {
					list = append(list, w)
				}
			}
		}
	}
	return list
}
