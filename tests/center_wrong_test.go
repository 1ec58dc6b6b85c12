package tests

import (
	"math"
	"slices"
	"testing"

	"loop.example/g00357/impl"
)

func wantCentersCode(t *testing.T, what string, got impl.CentersResult, code int64) {
	t.Helper()
	if got.Code != code || len(got.Centers) != 0 {
		t.Fatalf("%s: %+v, want the code %d alone", what, got, code)
	}
}

// wrongCenterList is of no right centers, and has the code that is named first of it.
type wrongCenterList struct {
	list []impl.Center
	code int64
}

// wrongCenterLists have one fault, or several: how many there are is asked ahead of each of them, and of several with a fault the first one is told.
func wrongCenterLists() []wrongCenterList {
	short, far := impl.Center{Vec: []int64{1, 2}}, centerOf(0, 0, 1001)
	lists := []wrongCenterList{
		{nil, impl.ErrMany},
		{[]impl.Center{}, impl.ErrMany},
		{onLine(1, 2, 3, 4, 5, 6, 7), impl.ErrMany},
		{slices.Repeat(onLine(1), 7), impl.ErrMany},
		{slices.Repeat(onLine(1), 1000), impl.ErrMany},
		{make([]impl.Center, 7), impl.ErrMany},
		{append(onLine(1, 2, 3, 4, 5, 6), short), impl.ErrMany},
		{append([]impl.Center{far}, onLine(1, 2, 3, 4, 5, 6)...), impl.ErrMany},
		{make([]impl.Center, 1), impl.ErrForm},
		{make([]impl.Center, 6), impl.ErrForm},
		{[]impl.Center{short, far}, impl.ErrForm},
		{[]impl.Center{far, short}, impl.ErrRange},
		{[]impl.Center{centerOf(1, 1, 1), far, {}, short}, impl.ErrRange},
		{[]impl.Center{centerOf(1, 1, 1), {}, far, short}, impl.ErrForm},
	}
	for _, n := range []int{1, 2, 6} {
		for place := range n {
			for _, x := range wrongVecs() {
				list := onLine(1, 2, 3, 4, 5, 6)[:n]
				list[place].Vec = x.v
				lists = append(lists, wrongCenterList{list, x.code})
			}
		}
	}
	return lists
}

func TestWrongCenters(t *testing.T) {
	for _, x := range wrongCenterLists() {
		if code := impl.CentersFault(x.list); code != x.code {
			t.Errorf("CentersFault(%v) = %d, want %d", x.list, code, x.code)
		}
	}
}

// P1: centers with a fault are told ahead of all else, whatever else is wrong.
func TestCentersAreAskedFirst(t *testing.T) {
	tables := [][]impl.Item{nil, itemsOnLine(1, 2, 3), fullTable(30, 1, 1), fullTable(31, 1, 1), {{Id: 1}}, {itemOf(0, 1, 2, 3)}, {itemOf(1, 0, 0, 1001)}}
	for _, x := range wrongCenterLists() {
		for _, v := range [][]int64{{1, 2, 3}, {1, 2}, {0, 0, 1001}, nil} {
			wantIntCode(t, "NearestOf, centers wrong", impl.NearestOf(x.list, v), x.code)
		}
		for _, items := range tables {
			wantListCode(t, "AssignAll, centers wrong", impl.AssignAll(x.list, items), x.code)
			wantIntCode(t, "CostOf, centers wrong", impl.CostOf(x.list, items), x.code)
			wantCentersCode(t, "MoveCenters, centers wrong", impl.MoveCenters(x.list, items), x.code)
		}
	}
}

func goodCenters() [][]impl.Center {
	return [][]impl.Center{onLine(0), onLine(5, 5), onLine(1, 2, 3, 4, 5, 6)}
}

func TestWrongVectorsNearest(t *testing.T) {
	for _, list := range goodCenters() {
		for _, x := range wrongVecs() {
			wantIntCode(t, "NearestOf, v wrong", impl.NearestOf(list, x.v), x.code)
		}
	}
}

func TestWrongItemsOfCenters(t *testing.T) {
	for _, list := range goodCenters() {
		for _, x := range wrongTables() {
			wantListCode(t, "AssignAll, items wrong", impl.AssignAll(list, x.items), x.code)
			wantIntCode(t, "CostOf, items wrong", impl.CostOf(list, x.items), x.code)
			wantCentersCode(t, "MoveCenters, items wrong", impl.MoveCenters(list, x.items), x.code)
		}
	}
}

func wrongRounds() []int64 {
	return append(outOf(0, 20), 1<<32+1, -1<<32, -1<<32+5)
}

func wrongSeedNumbers() []int64 {
	return append(outOf(0, 9999), 1<<32+1, -1<<32, math.MinInt64+1)
}

// wrongSeedCounts are no seeds, or too many, with seeds out of bounds among them.
func wrongSeedCounts() [][]int64 {
	return [][]int64{nil, {}, make([]int64, 7), {0, 1, 2, 3, 4, 5, 6}, {0, 0, 0, 0, 0, 0, -1}, {10000, 0, 0, 0, 0, 0, 0}, make([]int64, 1000)}
}

// The items are asked ahead of all else: their faults, then whether there are any.
func TestItemsAreAskedFirstToTrain(t *testing.T) {
	seedLists := append(wrongSeedCounts(), []int64{0}, []int64{0, 1, 2, 3, 4, 5}, []int64{-1}, []int64{10000})
	for _, x := range wrongTables() {
		for _, seeds := range seedLists {
			for _, rounds := range []int64{0, 20, -1, 21} {
				wantCentersCode(t, "TrainCenters, items wrong", impl.TrainCenters(x.items, seeds, rounds), x.code)
			}
		}
	}
	for _, seeds := range seedLists {
		for _, rounds := range append(wrongRounds(), 0, 1, 20) {
			wantCentersCode(t, "TrainCenters, no items", impl.TrainCenters(nil, seeds, rounds), impl.ErrNone)
			wantCentersCode(t, "TrainCenters, items empty", impl.TrainCenters([]impl.Item{}, seeds, rounds), impl.ErrNone)
		}
	}
}

// How many seeds there are is asked ahead of the rounds and of each of them.
func TestWrongNumberOfSeeds(t *testing.T) {
	for _, items := range [][]impl.Item{itemsOnLine(1), itemsOnLine(1, 2, 3, 4, 5, 6, 7, 8), fullTable(30, 1, 1)} {
		for _, seeds := range wrongSeedCounts() {
			for _, rounds := range append(wrongRounds(), 0, 1, 20) {
				wantCentersCode(t, "TrainCenters, seeds not 1 to 6", impl.TrainCenters(items, seeds, rounds), impl.ErrMany)
			}
		}
	}
}

func TestWrongRoundsAndSeeds(t *testing.T) {
	for _, items := range [][]impl.Item{itemsOnLine(1), itemsOnLine(3, 1, 2), fullTable(30, 1, 1)} {
		for _, rounds := range wrongRounds() {
			wantCentersCode(t, "TrainCenters, rounds wrong", impl.TrainCenters(items, []int64{0}, rounds), impl.ErrRange)
			wantCentersCode(t, "TrainCenters, rounds wrong", impl.TrainCenters(items, []int64{0, 1, 2, 3, 4, 9999}, rounds), impl.ErrRange)
			wantCentersCode(t, "TrainCenters, rounds and a seed wrong", impl.TrainCenters(items, []int64{-1}, rounds), impl.ErrRange)
		}
		for _, seed := range wrongSeedNumbers() {
			for _, n := range []int{1, 2, 6} {
				for place := range n {
					seeds := []int64{0, 9999, 2, 3, 1, 5}[:n]
					seeds[place] = seed
					for _, rounds := range []int64{0, 1, 20} {
						wantCentersCode(t, "TrainCenters, a seed wrong", impl.TrainCenters(items, seeds, rounds), impl.ErrRange)
					}
				}
			}
		}
	}
}

func cloneCenters(list []impl.Center) []impl.Center {
	var others []impl.Center
	for _, center := range list {
		others = append(others, impl.Center{Vec: slices.Clone(center.Vec)})
	}
	return others
}

// spareCenters are centers with room behind them and behind each Vec, and all of that room, so that a write behind an end is seen too.
func spareCenters(centers []impl.Center) (list []impl.Center, room []impl.Center, vecs [][]int64) {
	for _, center := range centers {
		vec, all := spareOf(center.Vec)
		room = append(room, impl.Center{Vec: vec})
		vecs = append(vecs, all)
	}
	for range 10 {
		room = append(room, centerOf(7, 7, 7))
	}
	return room[:len(centers)], room, vecs
}

func scribbleCenters(list []impl.Center) {
	for i := range list {
		scribbleInts(list[i].Vec)
		list[i] = centerOf(88, 88, 88)
	}
	_ = append(list, centerOf(87, 87, 87), centerOf(86, 86, 86))
}

// askCenters calls all functions of centers, and writes over all that they answer.
func askCenters(list []impl.Center, items []impl.Item, v []int64, seeds []int64, rounds int64) {
	impl.CentersFault(list)
	impl.NearestOf(list, v)
	impl.CostOf(list, items)
	scribbleInts(impl.AssignAll(list, items).List)
	scribbleCenters(impl.MoveCenters(list, items).Centers)
	scribbleCenters(impl.TrainCenters(items, seeds, rounds).Centers)
}

// stayingCenters are right ones and wrong ones.
func stayingCenters() [][]impl.Center {
	lists := [][]impl.Center{onLine(0, 500, 3), onLine(5, 5), {centerOf(1000, -1000, 0)}}
	return append(lists, nil, onLine(1, 2, 3, 4, 5, 6, 7), []impl.Center{{Vec: []int64{1, 2}}}, []impl.Center{centerOf(1, 2, 3), centerOf(0, 0, 1001)})
}

// P1: no argument is changed, not even what lies behind it, nor by a change of the answer.
func TestCentersStay(t *testing.T) {
	tables := append(goodTables(), itemsOnLine(0, 2, 30), fullTable(31, 1, 1), []impl.Item{{Id: 1}})
	for _, wasList := range stayingCenters() {
		for _, wasItems := range tables {
			list, listRoom, listVecs := spareCenters(wasList)
			items, itemsRoom, itemsVecs := spareItems(wasItems)
			clone := func(vecs [][]int64) (others [][]int64) {
				for _, v := range vecs {
					others = append(others, slices.Clone(v))
				}
				return others
			}
			wasListRoom, wasListVecs, wasItemsRoom, wasItemsVecs := cloneCenters(listRoom), clone(listVecs), cloneItems(itemsRoom), clone(itemsVecs)
			for _, s := range [][]int64{{0}, {0, 0, 9999}, {5, 4, 3, 2, 1, 0}, {-1}, nil} {
				v, vRoom := spareOf([]int64{4, 5, 6})
				seeds, seedsRoom := spareOf(s)
				wasV, wasSeeds := slices.Clone(vRoom), slices.Clone(seedsRoom)
				for _, rounds := range []int64{0, 1, 20, -1} {
					askCenters(list, items, v, seeds, rounds)
				}
				if !slices.Equal(vRoom, wasV) || !slices.Equal(seedsRoom, wasSeeds) {
					t.Fatalf("%v and %v were changed to %v and %v", wasV, wasSeeds, vRoom, seedsRoom)
				}
			}
			if !alikeCenters(listRoom, wasListRoom) || !slices.EqualFunc(listVecs, wasListVecs, slices.Equal[[]int64]) {
				t.Fatalf("%v was changed to %v", wasList, listRoom)
			}
			if !alikeItems(itemsRoom, wasItemsRoom) || !slices.EqualFunc(itemsVecs, wasItemsVecs, slices.Equal[[]int64]) {
				t.Fatalf("%v was changed to %v", wasItems, itemsRoom)
			}
		}
	}
}

// centersFrom are all answers with centers: of arguments that are made anew, and what is called once the answers are there, to change all that was given.
func centersFrom() (answers map[string][]impl.Center, spoil func()) {
	items, seeds := itemsOnLine(0, 1, 2, 3, 10, 11), []int64{0, 1}
	list := onLine(0, 500, 10)
	answers = map[string][]impl.Center{
		"MoveCenters":                       impl.MoveCenters(list, items).Centers,
		"MoveCenters to no items":           impl.MoveCenters(list, nil).Centers,
		"MoveCenters of those that stay":    impl.MoveCenters(onLine(2, 11), items).Centers,
		"MoveCenters, the Vec of an item":   impl.MoveCenters([]impl.Center{{Vec: items[0].Vec}, {Vec: items[0].Vec}}, items[:1]).Centers,
		"TrainCenters without rounds":       impl.TrainCenters(items, seeds, 0).Centers,
		"TrainCenters of one item":          impl.TrainCenters(items, []int64{3, 3, 9, 3}, 0).Centers,
		"TrainCenters of a round":           impl.TrainCenters(items, seeds, 1).Centers,
		"TrainCenters with idle centers":    impl.TrainCenters(items, []int64{0, 0, 0, 0, 0, 0}, 1).Centers,
		"TrainCenters of all rounds":        impl.TrainCenters(items, seeds, 20).Centers,
		"TrainCenters, rounds without help": impl.TrainCenters(items[:2], []int64{0}, 20).Centers,
		"AssignAll":                         {{Vec: impl.AssignAll(list, items).List}},
	}
	return answers, func() {
		scribbleItems(items)
		scribbleInts(seeds)
		scribbleCenters(list)
	}
}

// P1: an answer stays as it is, whatever becomes of the arguments that it came from.
func TestCentersAreNotShared(t *testing.T) {
	want, _ := centersFrom()
	got, spoil := centersFrom()
	spoil()
	for what, list := range got {
		if len(list) == 0 || !alikeCenters(list, want[what]) {
			t.Errorf("%s: %v became %v by a change of what was given", what, want[what], list)
		}
	}
}

// P1: no two lists of one answer share any memory, not even behind their ends.
func TestListsOfOneAnswerOfCentersAreApart(t *testing.T) {
	want, _ := centersFrom()
	for what := range want {
		for at := range want[what] {
			answers, _ := centersFrom()
			list := answers[what]
			scribbleInts(list[at].Vec)
			list[at].Vec = want[what][at].Vec
			if !alikeCenters(list, want[what]) {
				t.Fatalf("%s: %v became %v by a change at %d", what, want[what], list, at)
			}
		}
	}
}

// P1: the lists of an answer are apart also where those that were given were one.
func TestCentersOfOneVector(t *testing.T) {
	one := []int64{1, 2, 3}
	list := slices.Repeat([]impl.Center{{Vec: one}}, 6)
	var items []impl.Item
	for id := int64(1); id <= 10; id++ {
		items = append(items, impl.Item{Id: id, Vec: one})
	}
	for _, got := range [][]impl.Center{impl.MoveCenters(list, nil).Centers, impl.MoveCenters(list, items).Centers, impl.TrainCenters(items, make([]int64, 6), 0).Centers, impl.TrainCenters(items, []int64{0, 1, 2, 3, 4, 5}, 20).Centers} {
		if !alikeCenters(got, list) {
			t.Fatalf("%v, want %v", got, list)
		}
		for i := range got {
			scribbleInts(got[i].Vec)
			for _, later := range got[i+1:] {
				if !slices.Equal(later.Vec, []int64{1, 2, 3}) {
					t.Fatalf("%v became %v by a change of another one", one, later)
				}
			}
		}
		if !slices.Equal(one, []int64{1, 2, 3}) {
			t.Fatalf("what was given became %v", one)
		}
	}
}

// P1: each answer is new memory, and the same whatever was called or changed ahead of it.
func TestCentersAreNew(t *testing.T) {
	want, _ := centersFrom()
	first, _ := centersFrom()
	kept, _ := centersFrom()
	for _, list := range first {
		scribbleCenters(list)
	}
	impl.TrainCenters(fullTable(30, 1, 1), []int64{0, 1, 2, 3, 4, 5}, 20)
	impl.MoveCenters(onLine(7, 8, 9), fullTable(31, 1, 1))
	again, _ := centersFrom()
	for what, list := range want {
		if !alikeCenters(kept[what], list) || !alikeCenters(again[what], list) {
			t.Errorf("%s: %v became %v and %v by a change of another answer", what, list, kept[what], again[what])
		}
	}
}

// P1: calls at the same time keep nothing that another one could see (a run with -race tells of it as well).
func TestCentersBesideOneAnother(t *testing.T) {
	done := make(chan bool)
	shared, seeds := fullTable(30, 1, 1), []int64{0, 29, 7}
	for worker := range int64(8) {
		want := trainedOf(shared, seeds, worker)
		go func() {
			right := true
			for range 100 {
				got := impl.TrainCenters(shared, seeds, worker).Centers
				right = right && alikeCenters(got, want) && impl.CostOf(got, shared).Value == sumOfDistances(want, shared)
				right = right && alikeCenters(impl.MoveCenters(got, shared).Centers, meansOf(want, shared)) && slices.Equal(impl.AssignAll(got, shared).List, placesOfAll(want, shared))
			}
			done <- right
		}()
	}
	for range 8 {
		if !<-done {
			t.Error("a call answered otherwise beside others")
		}
	}
}
