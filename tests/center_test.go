package tests

import (
	"math/rand"
	"slices"
	"testing"

	"loop.example/g00357/impl"
)

func centerOf(a, b, c int64) impl.Center {
	return impl.Center{Vec: []int64{a, b, c}}
}

// onLine are centers on a line, on which all is easily worked out by hand.
func onLine(places ...int64) []impl.Center {
	var list []impl.Center
	for _, at := range places {
		list = append(list, centerOf(at, 0, 0))
	}
	return list
}

// itemsOnLine have the Ids 1, 2, and so on.
func itemsOnLine(places ...int64) []impl.Item {
	var list []impl.Item
	for i, at := range places {
		list = append(list, itemOf(int64(i+1), at, 0, 0))
	}
	return list
}

func alikeCenters(a, b []impl.Center) bool {
	return slices.EqualFunc(a, b, func(x, y impl.Center) bool { return slices.Equal(x.Vec, y.Vec) })
}

func wantCenters(t *testing.T, what string, got impl.CentersResult, want []impl.Center) {
	t.Helper()
	if got.Code != impl.OK || !alikeCenters(got.Centers, want) {
		t.Fatalf("%s: %+v, want %v", what, got, want)
	}
}

// nearestPlace looks for the least of all distances, and then for where it stands first.
func nearestPlace(list []impl.Center, v []int64) int64 {
	var all []int64
	for _, center := range list {
		all = append(all, distance(center.Vec, v))
	}
	return int64(slices.Index(all, slices.Min(all)))
}

func placesOfAll(list []impl.Center, items []impl.Item) []int64 {
	var places []int64
	for _, item := range items {
		places = append(places, nearestPlace(list, item.Vec))
	}
	return places
}

func sumOfDistances(list []impl.Center, items []impl.Item) int64 {
	sum := int64(0)
	for _, item := range items {
		sum += distance(list[nearestPlace(list, item.Vec)].Vec, item.Vec)
	}
	return sum
}

// roundedMean goes up from below the mean to the first number of which none above it is as near or nearer.
func roundedMean(sum, n int64) int64 {
	mean := sum/n - 2
	for 2*(mean*n-sum) <= -n {
		mean++
	}
	return mean
}

// meansOf goes center by center, not item by item.
func meansOf(list []impl.Center, items []impl.Item) []impl.Center {
	var moved []impl.Center
	for place, center := range list {
		n, sums := int64(0), [3]int64{}
		for _, item := range items {
			if nearestPlace(list, item.Vec) == int64(place) {
				n++
				for i, part := range item.Vec {
					sums[i] += part
				}
			}
		}
		if n > 0 {
			center = centerOf(roundedMean(sums[0], n), roundedMean(sums[1], n), roundedMean(sums[2], n))
		}
		moved = append(moved, impl.Center{Vec: slices.Clone(center.Vec)})
	}
	return moved
}

func itemsAtSeeds(items []impl.Item, seeds []int64) []impl.Center {
	var list []impl.Center
	for _, seed := range seeds {
		list = append(list, impl.Center{Vec: slices.Clone(items[int(seed)%len(items)].Vec)})
	}
	return list
}

// trainedOf goes one round behind the other, and turns round where it does not help.
func trainedOf(items []impl.Item, seeds []int64, rounds int64) []impl.Center {
	list := itemsAtSeeds(items, seeds)
	for ; rounds > 0; rounds-- {
		moved := meansOf(list, items)
		if sumOfDistances(moved, items) >= sumOfDistances(list, items) {
			return list
		}
		list = moved
	}
	return list
}

// littleItems stand in a little room, where much is equally near; those with negative parts as well.
func littleItems(from *rand.Rand, n int, room int64) []impl.Item {
	var p places
	for _, at := range from.Perm(999)[:n] {
		p[at+1] = []int64{from.Int63n(2*room+1) - room, from.Int63n(2*room+1) - room, from.Int63n(room + 1)}
	}
	return p.items()
}

func someCenters(from *rand.Rand, n int, room int64) []impl.Center {
	var list []impl.Center
	for range n {
		list = append(list, centerOf(from.Int63n(2*room+1)-room, from.Int63n(2*room+1)-room, from.Int63n(2*room+1)-room))
	}
	return list
}

// manyCenters are of all numbers, near one another and far apart; the same ones at each run.
func manyCenters() [][]impl.Center {
	from := rand.New(rand.NewSource(14))
	lists := [][]impl.Center{onLine(0), onLine(0, 0), onLine(-1, 1), onLine(5, 5, 5, 5, 5, 5), {centerOf(1000, 1000, 1000), centerOf(-1000, -1000, -1000)}}
	for n := 1; n <= 6; n++ {
		for _, room := range []int64{1, 3, 50, 1000} {
			lists = append(lists, someCenters(from, n, room))
		}
	}
	return lists
}

// manyCrowds are tables with much and with little room between their items.
func manyCrowds() [][]impl.Item {
	from := rand.New(rand.NewSource(15))
	lists := manyTables()
	for _, n := range []int{1, 2, 3, 6, 7, 12, 29, 30} {
		for _, room := range []int64{1, 2, 5, 40, 1000} {
			lists = append(lists, littleItems(from, n, room))
		}
	}
	return lists
}

func TestCentersWithoutFault(t *testing.T) {
	if impl.MaxCenters != 6 {
		t.Error(impl.MaxCenters)
	}
	for _, list := range manyCenters() {
		if code := impl.CentersFault(list); code != impl.OK {
			t.Errorf("CentersFault(%v) = %d", list, code)
		}
	}
	for _, v := range edgeVecs() {
		if code := impl.CentersFault([]impl.Center{{Vec: v}, {Vec: v}}); code != impl.OK {
			t.Errorf("CentersFault of %v = %d", v, code)
		}
	}
}

func TestNearestOfExamples(t *testing.T) {
	for _, x := range []struct {
		list []impl.Center
		v    []int64
		want int64
	}{
		{onLine(7), []int64{-1000, 1000, 1000}, 0},
		{onLine(0, 10), []int64{4, 0, 0}, 0},
		{onLine(0, 10), []int64{6, 0, 0}, 1},
		{onLine(10, 0), []int64{6, 0, 0}, 0},
		{onLine(-1000, 0, 1000), []int64{1000, 1000, 1000}, 2},
		{onLine(0, 1, 2, 3, 4, 5), []int64{5, 9, -9}, 5},
		{[]impl.Center{centerOf(1000, 1000, 1000), centerOf(-1000, -1000, -999)}, []int64{-1000, -1000, -1000}, 1},
		{[]impl.Center{centerOf(1000, 1000, 1000)}, []int64{-1000, -1000, -1000}, 0},
		{[]impl.Center{centerOf(3, 0, 0), centerOf(1, 1, 1)}, []int64{0, 0, 0}, 1},
		{[]impl.Center{centerOf(0, 0, -2), centerOf(0, 1, 0)}, []int64{0, 0, 0}, 1},
	} {
		wantInt(t, "NearestOf", impl.NearestOf(x.list, x.v), x.want)
	}
}

// Of centers that are equally near the first one is taken, wherever they stand.
func TestNearestOfEquallyNear(t *testing.T) {
	wantInt(t, "between two", impl.NearestOf(onLine(0, 10), []int64{5, 0, 0}), 0)
	wantInt(t, "between two, turned", impl.NearestOf(onLine(10, 0), []int64{5, 0, 0}), 0)
	wantInt(t, "between two that are not first", impl.NearestOf(onLine(100, 10, 0), []int64{5, 0, 0}), 1)
	wantInt(t, "all the same", impl.NearestOf(onLine(3, 3, 3, 3, 3, 3), []int64{-5, 0, 7}), 0)
	wantInt(t, "two of the same behind another one", impl.NearestOf(onLine(9, 3, 3), []int64{3, 0, 0}), 1)
	around := []impl.Center{centerOf(10, 0, 0), centerOf(0, -10, 0), centerOf(0, 0, 10), centerOf(-10, 0, 0), centerOf(0, 6, 8), centerOf(-8, 0, 6)}
	for from := range around {
		turned := append(slices.Clone(around[from:]), around[:from]...)
		wantInt(t, "a ring", impl.NearestOf(turned, []int64{0, 0, 0}), 0)
		wantInt(t, "a ring behind one that is far", impl.NearestOf(append(onLine(11), turned[:5]...), []int64{0, 0, 0}), 1)
	}
	wantList(t, "AssignAll of items between", impl.AssignAll(onLine(10, 0, 20), itemsOnLine(5, 15, 10, 4, 16)), []int64{0, 0, 0, 1, 2})
}

func TestNearestOfManyCenters(t *testing.T) {
	for _, list := range manyCenters() {
		for _, v := range append(edgeVecs(), someVecs(100)...) {
			wantInt(t, "NearestOf", impl.NearestOf(list, v), nearestPlace(list, v))
		}
		for _, center := range list {
			wantInt(t, "NearestOf a center", impl.NearestOf(list, center.Vec), nearestPlace(list, center.Vec))
		}
	}
}

func TestAssignAllOfExamples(t *testing.T) {
	wantList(t, "two centers", impl.AssignAll(onLine(1, 100), itemsOnLine(0, 2, 100)), []int64{0, 0, 1})
	wantList(t, "two centers, turned", impl.AssignAll(onLine(100, 1), itemsOnLine(0, 2, 100)), []int64{1, 1, 0})
	wantList(t, "items in any order", impl.AssignAll(onLine(0, 10, 20), itemsOnLine(19, 1, 11, 0, 30, -30)), []int64{2, 0, 1, 0, 2, 0})
	wantList(t, "one center", impl.AssignAll(onLine(7), itemsOnLine(0, 2, 100)), []int64{0, 0, 0})
	wantList(t, "a center without items", impl.AssignAll(onLine(0, 500, 10), itemsOnLine(0, 9)), []int64{0, 2})
}

func TestCostOfExamples(t *testing.T) {
	wantInt(t, "two centers", impl.CostOf(onLine(1, 100), itemsOnLine(0, 2, 100)), 2)
	wantInt(t, "one center", impl.CostOf(onLine(0), itemsOnLine(1, -2, 3)), 14)
	wantInt(t, "items at their centers", impl.CostOf(onLine(1, -2, 3), itemsOnLine(1, -2, 3)), 0)
	wantInt(t, "all parts", impl.CostOf([]impl.Center{centerOf(1, 2, 3)}, []impl.Item{itemOf(4, 0, 0, 0), itemOf(9, 2, 4, 6)}), 28)
	var far []impl.Item
	for id := int64(1); id <= 30; id++ {
		far = append(far, itemOf(id, 1000, -1000, 1000))
	}
	wantInt(t, "as far as can be", impl.CostOf(slices.Repeat([]impl.Center{centerOf(-1000, 1000, -1000)}, 6), far), 360000000)
}

func TestMoveCentersOfExamples(t *testing.T) {
	for _, x := range []struct {
		what  string
		list  []impl.Center
		items []impl.Item
		want  []impl.Center
	}{
		{"each to its mean", onLine(0, 10), itemsOnLine(-1, 3, 10, 12, 14), onLine(1, 12)},
		{"each at its mean", onLine(1, 100), itemsOnLine(0, 2, 100), onLine(1, 100)},
		{"an item that was never one of its own", onLine(0, 10), itemsOnLine(0, 4, 8, 10), onLine(2, 9)},
		{"all parts", []impl.Center{centerOf(0, 0, 0)}, []impl.Item{itemOf(1, 1, -10, 7), itemOf(2, 3, -20, 9)}, []impl.Center{centerOf(2, -15, 8)}},
		{"halves go up", onLine(0), itemsOnLine(0, 1), onLine(1)},
		{"halves below 0 go up, too", onLine(0), itemsOnLine(0, -1), onLine(0)},
		{"far below 0", onLine(-100), itemsOnLine(-101, -100, -100, -98, -104, -104), onLine(-101)},
		{"a half far below 0", onLine(-100), itemsOnLine(-104, -101), onLine(-102)},
		{"more than a half below 0", onLine(0), itemsOnLine(-1, -1, 0), onLine(-1)},
		{"less than a half below 0", onLine(0), itemsOnLine(-1, 0, 0), onLine(0)},
		{"halves of all parts", []impl.Center{centerOf(0, 0, 0)}, []impl.Item{itemOf(1, -3, 3, -1000), itemOf(2, 0, 0, -999)}, []impl.Center{centerOf(-1, 2, -999)}},
		{"at the bounds", onLine(0), []impl.Item{itemOf(1, 1000, -1000, 1000), itemOf(2, 1000, -1000, 1000)}, []impl.Center{centerOf(1000, -1000, 1000)}},
		{"the order of items", onLine(20, 0), itemsOnLine(1, 19, 2, 21, 3), onLine(20, 2)},
	} {
		wantCenters(t, x.what, impl.MoveCenters(x.list, x.items), x.want)
	}
}

// A center to which no item is assigned stays as it is, and in its place.
func TestCentersWithoutItems(t *testing.T) {
	wantCenters(t, "the first", impl.MoveCenters(onLine(500, 0), itemsOnLine(2, 4)), onLine(500, 3))
	wantCenters(t, "the last", impl.MoveCenters(onLine(0, 500), itemsOnLine(2, 4)), onLine(3, 500))
	wantCenters(t, "one between", impl.MoveCenters(onLine(0, 500, 10), itemsOnLine(2, 4, 12)), onLine(3, 500, 12))
	wantCenters(t, "all but one", impl.MoveCenters(onLine(-500, 500, 501, 0, -501, 502), itemsOnLine(7)), onLine(-500, 500, 501, 7, -501, 502))
	wantCenters(t, "the second of the same", impl.MoveCenters(onLine(5, 5, 5), itemsOnLine(7, 9)), onLine(8, 5, 5))
	wantCenters(t, "one that is as near as another one", impl.MoveCenters(onLine(10, 0), itemsOnLine(5, 5)), onLine(5, 0))
	wantCenters(t, "one with all parts", impl.MoveCenters([]impl.Center{centerOf(0, 0, 0), centerOf(-7, 1000, -1000)}, itemsOnLine(2)), []impl.Center{centerOf(2, 0, 0), centerOf(-7, 1000, -1000)})
	wantCenters(t, "one at 0", impl.MoveCenters(onLine(900, 0), itemsOnLine(1000)), onLine(1000, 0))
}

func TestNoItems(t *testing.T) {
	for _, list := range manyCenters() {
		for _, items := range [][]impl.Item{nil, {}} {
			wantList(t, "AssignAll of no items", impl.AssignAll(list, items), nil)
			wantInt(t, "CostOf no items", impl.CostOf(list, items), 0)
			wantCenters(t, "MoveCenters to no items", impl.MoveCenters(list, items), list)
		}
	}
}

func TestCentersOfManyCrowds(t *testing.T) {
	for _, items := range manyCrowds() {
		for _, list := range manyCenters() {
			wantList(t, "AssignAll", impl.AssignAll(list, items), placesOfAll(list, items))
			wantInt(t, "CostOf", impl.CostOf(list, items), sumOfDistances(list, items))
			wantCenters(t, "MoveCenters", impl.MoveCenters(list, items), meansOf(list, items))
		}
	}
}

// All these functions tell of one and the same nearest center.
func TestCentersAgree(t *testing.T) {
	for _, items := range manyCrowds() {
		for _, list := range manyCenters() {
			places, cost := impl.AssignAll(list, items).List, int64(0)
			for i, item := range items {
				wantInt(t, "NearestOf as AssignAll", impl.NearestOf(list, item.Vec), places[i])
				cost += impl.ScoreOf(list[places[i]].Vec, item.Vec).Value
				for _, other := range list {
					if impl.ScoreOf(other.Vec, item.Vec).Value < impl.ScoreOf(list[places[i]].Vec, item.Vec).Value {
						t.Fatalf("AssignAll(%v, %v) = %v: there is a nearer one", list, items, places)
					}
				}
			}
			wantInt(t, "CostOf as AssignAll", impl.CostOf(list, items), cost)
		}
	}
}

// Without a round the centers are the items at what their number leaves of the seeds.
func TestTrainWithoutRounds(t *testing.T) {
	items := itemsOnLine(50, 7, -3, 9, 1000)
	wantCenters(t, "one seed", impl.TrainCenters(items, []int64{2}, 0), onLine(-3))
	wantCenters(t, "seeds in their order", impl.TrainCenters(items, []int64{4, 0, 3}, 0), onLine(1000, 50, 9))
	wantCenters(t, "seeds above the number of items", impl.TrainCenters(items, []int64{5, 6, 9, 10, 9998, 9999}, 0), onLine(50, 7, 1000, 50, 9, 1000))
	wantCenters(t, "the same seeds", impl.TrainCenters(items, []int64{1, 1, 6}, 0), onLine(7, 7, 7))
	for _, items := range manyCrowds() {
		for seed := int64(0); seed <= 9999 && len(items) > 0; seed += 37 {
			want := impl.Center{Vec: items[seed%int64(len(items))].Vec}
			wantCenters(t, "each seed", impl.TrainCenters(items, []int64{seed}, 0), []impl.Center{want})
		}
	}
}

func TestTrainOfExamples(t *testing.T) {
	items := itemsOnLine(0, 1, 2, 3, 10, 11)
	for rounds := range int64(21) {
		// The costs are 186, 70, 19 and 7; a fourth round moves nothing.
		want := [][]impl.Center{onLine(0, 1), onLine(0, 5), onLine(1, 8), onLine(2, 11)}[min(rounds, 3)]
		wantCenters(t, "round by round", impl.TrainCenters(items, []int64{0, 1}, rounds), want)
		wantCenters(t, "one item", impl.TrainCenters(itemsOnLine(-8), []int64{0, 9999}, rounds), onLine(-8, -8))
		wantCenters(t, "items that are their centers", impl.TrainCenters(itemsOnLine(5, 6, 7), []int64{2, 0, 1}, rounds), onLine(7, 5, 6))
	}
	for rounds := int64(1); rounds <= 20; rounds++ {
		wantCenters(t, "means below 0", impl.TrainCenters(itemsOnLine(-10, -13, -15, -20), []int64{0}, rounds), onLine(-14))
		wantCenters(t, "two crowds", impl.TrainCenters(itemsOnLine(0, 2, 100), []int64{0, 2}, rounds), onLine(1, 100))
	}
}

// A round that does not make the cost less is not taken, nor is any behind it.
func TestRoundsThatDoNotHelp(t *testing.T) {
	for rounds := range int64(21) {
		wantCenters(t, "a half that goes up", impl.TrainCenters(itemsOnLine(0, 1), []int64{0}, rounds), onLine(0))
		wantCenters(t, "a half that goes up, from above", impl.TrainCenters(itemsOnLine(0, 1), []int64{1}, rounds), onLine(1))
		wantCenters(t, "a half below 0", impl.TrainCenters(itemsOnLine(-1, 0), []int64{0}, rounds), onLine(-1))
		wantCenters(t, "one that would help only behind another one", impl.TrainCenters(itemsOnLine(0, 1, 3, 5, 7), []int64{0, 3}, rounds), onLine(0, 5))
	}
	// What a second round would have come to: the first one costs 9 as before, the second one 7.
	items := itemsOnLine(0, 1, 3, 5, 7)
	first := impl.MoveCenters(onLine(0, 5), items)
	wantCenters(t, "the first round", first, onLine(1, 5))
	wantInt(t, "the cost ahead of it", impl.CostOf(onLine(0, 5), items), 9)
	wantInt(t, "the cost behind it", impl.CostOf(first.Centers, items), 9)
	wantInt(t, "the cost behind the second one", impl.CostOf(impl.MoveCenters(first.Centers, items).Centers, items), 7)
}

// Of seeds that are the same item the first one takes all, and the others stay until something is nearer to them.
func TestSeedsOfOneItem(t *testing.T) {
	items := itemsOnLine(0, 2, 30)
	wantCenters(t, "none", impl.TrainCenters(items, []int64{0, 0, 3}, 0), onLine(0, 0, 0))
	wantCenters(t, "one round", impl.TrainCenters(items, []int64{0, 0, 3}, 1), onLine(11, 0, 0))
	wantCenters(t, "two rounds", impl.TrainCenters(items, []int64{0, 0, 3}, 2), onLine(30, 1, 0))
	wantCenters(t, "three rounds", impl.TrainCenters(items, []int64{0, 0, 3}, 3), onLine(30, 2, 0))
	wantCenters(t, "more rounds", impl.TrainCenters(items, []int64{0, 0, 3}, 20), onLine(30, 2, 0))
	same := []impl.Item{itemOf(3, 4, 5, 6), itemOf(5, 4, 5, 6), itemOf(9, 4, 5, 6)}
	wantCenters(t, "items that are the same point", impl.TrainCenters(same, []int64{0, 1, 2}, 20), []impl.Center{centerOf(4, 5, 6), centerOf(4, 5, 6), centerOf(4, 5, 6)})
}

// manySeeds are of all numbers, some of them of the same items; the same ones at each run.
func manySeeds() [][]int64 {
	from := rand.New(rand.NewSource(16))
	lists := [][]int64{{0}, {9999}, {0, 0}, {0, 1}, {1, 0}, {7, 7, 7, 7, 7, 7}, {0, 1, 2, 3, 4, 5}}
	for n := 1; n <= 6; n++ {
		for range 3 {
			var seeds []int64
			for range n {
				seeds = append(seeds, from.Int63n(10000))
			}
			lists = append(lists, seeds)
		}
	}
	return lists
}

func TestTrainOfManyCrowds(t *testing.T) {
	for _, items := range manyCrowds() {
		for _, seeds := range manySeeds() {
			for _, rounds := range []int64{0, 1, 2, 3, 5, 19, 20} {
				if len(items) > 0 {
					wantCenters(t, "TrainCenters", impl.TrainCenters(items, seeds, rounds), trainedOf(items, seeds, rounds))
				}
			}
		}
	}
}

// P7: trained centers stand for the items at least as well as the ones from which they came: the items at the seeds, and those of fewer rounds.
func TestTrainedCentersStandAsWell(t *testing.T) {
	for _, items := range manyCrowds() {
		for _, seeds := range manySeeds() {
			if len(items) == 0 {
				continue
			}
			were := itemsAtSeeds(items, seeds)
			for _, rounds := range []int64{0, 1, 2, 3, 4, 6, 9, 20} {
				got := impl.TrainCenters(items, seeds, rounds)
				if got.Code != impl.OK || impl.CentersFault(got.Centers) != impl.OK || len(got.Centers) != len(seeds) {
					t.Fatalf("TrainCenters(%v, %v, %d) = %+v", items, seeds, rounds, got)
				}
				cost, was := sumOfDistances(got.Centers, items), sumOfDistances(were, items)
				if cost > was || cost == was && !alikeCenters(got.Centers, were) {
					t.Fatalf("TrainCenters(%v, %v, %d) = %v costs %d, and %v costs %d", items, seeds, rounds, got.Centers, cost, were, was)
				}
				wantInt(t, "CostOf", impl.CostOf(got.Centers, items), cost)
				were = got.Centers
			}
		}
	}
}

// P7: a round is one of MoveCenters, and centers that are moved never stand worse for the items.
func TestMovedCentersStandAsWell(t *testing.T) {
	for _, items := range manyCrowds() {
		for _, list := range manyCenters() {
			for range 5 {
				moved := impl.MoveCenters(list, items)
				if moved.Code != impl.OK || sumOfDistances(moved.Centers, items) > sumOfDistances(list, items) {
					t.Fatalf("MoveCenters(%v, %v) = %+v costs more", list, items, moved)
				}
				list = moved.Centers
			}
		}
	}
}

// P7: a round more is one of MoveCenters, just if it makes the cost less.
func TestOneRoundMore(t *testing.T) {
	for _, items := range manyCrowds() {
		for _, seeds := range manySeeds() {
			want := impl.TrainCenters(items, seeds, 0).Centers
			for rounds := int64(1); rounds <= 8 && len(items) > 0; rounds++ {
				moved := impl.MoveCenters(want, items).Centers
				if impl.CostOf(moved, items).Value < impl.CostOf(want, items).Value {
					want = moved
				}
				wantCenters(t, "a round more", impl.TrainCenters(items, seeds, rounds), want)
			}
		}
	}
}

// All tables of up to five items at five places of a line, with all pairs of seeds: here halves and ties are everywhere.
func TestTrainOfAllShortLines(t *testing.T) {
	lines := [][]int64{{-2}, {-1}, {0}, {1}, {3}}
	for at := 0; at < len(lines); at++ {
		line := lines[at]
		items := itemsOnLine(line...)
		for first := range int64(len(line)) {
			for second := range int64(len(line)) {
				for _, rounds := range []int64{1, 2, 20} {
					seeds := []int64{first, second}
					wantCenters(t, "TrainCenters", impl.TrainCenters(items, seeds, rounds), trainedOf(items, seeds, rounds))
				}
			}
		}
		if len(line) < 5 {
			for _, place := range []int64{-2, -1, 0, 1, 3} {
				lines = append(lines, append(slices.Clone(line), place))
			}
		}
	}
}

// Ids do not count: where items stand, and in which order, is all that is asked for.
func TestCentersOfOtherIds(t *testing.T) {
	for _, items := range manyCrowds() {
		if len(items) == 0 {
			continue
		}
		other := cloneItems(items)
		for i := range other {
			other[i].Id = int64(970 + i)
		}
		for _, seeds := range manySeeds() {
			list := impl.TrainCenters(items, seeds, 5).Centers
			wantCenters(t, "TrainCenters of other Ids", impl.TrainCenters(other, seeds, 5), list)
			wantList(t, "AssignAll of other Ids", impl.AssignAll(list, other), impl.AssignAll(list, items).List)
		}
	}
}
