package tests

import (
	"math/rand"
	"slices"
	"testing"

	"loop.example/g00357/impl"
)

// listed is an index as it is written by hand: centers, and for each its items.
func listed(list []impl.Center, lists ...[]impl.Item) impl.Ivf {
	x := impl.Ivf{Centers: list}
	for _, items := range lists {
		x.Lists = append(x.Lists, impl.IvfList{Items: items})
	}
	return x
}

func alikeIvf(a, b impl.Ivf) bool {
	return alikeCenters(a.Centers, b.Centers) && slices.EqualFunc(a.Lists, b.Lists, func(x, y impl.IvfList) bool { return alikeItems(x.Items, y.Items) })
}

func wantIvf(t *testing.T, what string, got impl.IvfResult, want impl.Ivf) {
	t.Helper()
	if got.Code != impl.OK || !alikeIvf(got.Ivf, want) {
		t.Fatalf("%s: %+v, want %v", what, got, want)
	}
}

// ivfOf goes center by center, and takes of all items those that are its own.
func ivfOf(list []impl.Center, items []impl.Item) impl.Ivf {
	x := impl.Ivf{Centers: cloneCenters(list)}
	for place := range list {
		var own []impl.Item
		for _, item := range items {
			if nearestPlace(list, item.Vec) == int64(place) {
				own = append(own, impl.Item{Id: item.Id, Vec: slices.Clone(item.Vec)})
			}
		}
		x.Lists = append(x.Lists, impl.IvfList{Items: own})
	}
	return x
}

// probesOf takes the nearest center, then the nearest of those that are left, and so on.
func probesOf(list []impl.Center, query []int64, n int64) []int64 {
	var places []int64
	for int64(len(places)) < n && len(places) < len(list) {
		best := -1
		for place, center := range list {
			if slices.Contains(places, int64(place)) {
				continue
			}
			if best < 0 || distance(center.Vec, query) < distance(list[best].Vec, query) {
				best = place
			}
		}
		places = append(places, int64(best))
	}
	return places
}

// seenItems are those that stand at the n nearest centers, in the order of the table.
func seenItems(list []impl.Center, items []impl.Item, query []int64, n int64) []impl.Item {
	var seen []impl.Item
	places := probesOf(list, query, n)
	for _, item := range items {
		if slices.Contains(places, nearestPlace(list, item.Vec)) {
			seen = append(seen, item)
		}
	}
	return seen
}

func foundOf(list []impl.Center, items []impl.Item, query []int64, k, n int64) []impl.Hit {
	var hits []impl.Hit
	for _, item := range seenItems(list, items, query, n) {
		hits = append(hits, impl.Hit{Id: item.Id, Score: distance(query, item.Vec)})
	}
	return bestHits(hits, k)
}

// crowd is what an index is made of.
type crowd struct {
	list  []impl.Center
	items []impl.Item
}

// manyIndexes are of all numbers of centers, with and without items, crowded and far apart; the same ones at each run.
func manyIndexes() []crowd {
	var all []crowd
	crowds := manyCrowds()
	for i, list := range manyCenters() {
		for j := i % 9; j < len(crowds); j += 9 {
			all = append(all, crowd{list, crowds[j]})
		}
	}
	for i, items := range crowds {
		if len(items) > 0 {
			seeds := manySeeds()
			all = append(all, crowd{trainedOf(items, seeds[i%len(seeds)], 5), items})
		}
	}
	return all
}

func TestIvfWithoutFault(t *testing.T) {
	for _, x := range manyIndexes() {
		if code := impl.IvfFault(ivfOf(x.list, x.items)); code != impl.OK {
			t.Fatalf("IvfFault(%v) = %d", ivfOf(x.list, x.items), code)
		}
	}
	empty := listed(onLine(3, 3), nil, []impl.Item{})
	if code := impl.IvfFault(empty); code != impl.OK {
		t.Errorf("IvfFault(%v) = %d", empty, code)
	}
}

func TestBuildIvfOfExamples(t *testing.T) {
	items := itemsOnLine(0, 2, 100, 4, 98)
	one, two, three, four, five := items[0], items[1], items[2], items[3], items[4]
	for _, x := range []struct {
		what  string
		list  []impl.Center
		items []impl.Item
		want  [][]impl.Item
	}{
		{"one center", onLine(7), items, [][]impl.Item{items}},
		{"two centers", onLine(0, 99), items, [][]impl.Item{{one, two, four}, {three, five}}},
		{"two centers, turned", onLine(99, 0), items, [][]impl.Item{{three, five}, {one, two, four}}},
		{"a center without items", onLine(0, 500, 99), items, [][]impl.Item{{one, two, four}, nil, {three, five}}},
		{"centers that are alike", onLine(500, 0, 0, 99, 99), items, [][]impl.Item{nil, {one, two, four}, nil, {three, five}, nil}},
		{"equally near centers", onLine(4, 0), items[:2], [][]impl.Item{{two}, {one}}},
		{"equally near centers, turned", onLine(0, 4), items[:2], [][]impl.Item{{one, two}, nil}},
		{"no items", onLine(1, 2), nil, [][]impl.Item{nil, nil}},
		{"all centers", onLine(0, 2, 100, 4, 98, 1000), items, [][]impl.Item{{one}, {two}, {three}, {four}, {five}, nil}},
	} {
		wantIvf(t, x.what, impl.BuildIvf(x.list, x.items), listed(x.list, x.want...))
	}
}

func TestBuildIvfOfManyCrowds(t *testing.T) {
	for _, x := range manyIndexes() {
		got := impl.BuildIvf(x.list, x.items)
		wantIvf(t, "BuildIvf", got, ivfOf(x.list, x.items))
		if code := impl.IvfFault(got.Ivf); code != impl.OK {
			t.Fatalf("IvfFault of BuildIvf(%v, %v) = %d", x.list, x.items, code)
		}
		wantTable(t, "ItemsOf", impl.ItemsOf(got.Ivf), x.items)
	}
}

// Each item stands where AssignAll has it, and nowhere else.
func TestBuildIvfAsAssignAll(t *testing.T) {
	for _, x := range manyIndexes() {
		lists := impl.BuildIvf(x.list, x.items).Ivf.Lists
		places := impl.AssignAll(x.list, x.items).List
		for i, item := range x.items {
			for place, own := range lists {
				stands := slices.ContainsFunc(own.Items, func(other impl.Item) bool { return alikeItem(item, other) })
				if stands != (places[i] == int64(place)) {
					t.Fatalf("BuildIvf(%v, %v): %v at %d", x.list, x.items, item, place)
				}
			}
		}
	}
}

func TestItemsOfExamples(t *testing.T) {
	items := itemsOnLine(0, 2, 100, 4, 98)
	one, two, three, four, five := items[0], items[1], items[2], items[3], items[4]
	wantTable(t, "lists whose Ids take turns", impl.ItemsOf(listed(onLine(99, 0), []impl.Item{three, five}, []impl.Item{one, two, four})), items)
	wantTable(t, "lists with none between them", impl.ItemsOf(listed(onLine(99, 50, 0), []impl.Item{five}, nil, []impl.Item{one, two})), []impl.Item{one, two, five})
	wantTable(t, "no items", impl.ItemsOf(listed(onLine(99, 50, 0), nil, nil, nil)), nil)
	wantTable(t, "both bounds", impl.ItemsOf(listed(onLine(0, 9), []impl.Item{itemOf(999, 1, 0, 0)}, []impl.Item{itemOf(1, 8, 0, 0)})), []impl.Item{itemOf(1, 8, 0, 0), itemOf(999, 1, 0, 0)})
}

func TestAddIvfOfExamples(t *testing.T) {
	items := itemsOnLine(0, 2, 100)
	one, two, three := items[0], items[1], items[2]
	x := listed(onLine(0, 99), []impl.Item{one, two}, []impl.Item{three})
	at := func(id, place int64) impl.Item { return itemOf(id, place, 0, 0) }
	for _, c := range []struct {
		what      string
		id, place int64
		near, far []impl.Item
	}{
		{"behind all of its list", 7, 5, []impl.Item{one, two, at(7, 5)}, []impl.Item{three}},
		{"to the other list", 7, 95, []impl.Item{one, two}, []impl.Item{three, at(7, 95)}},
		{"one that stays in its list", 1, 5, []impl.Item{at(1, 5), two}, []impl.Item{three}},
		{"one that stays as it is", 2, 2, []impl.Item{one, two}, []impl.Item{three}},
		{"one that moves ahead of the others", 1, 95, []impl.Item{two}, []impl.Item{at(1, 95), three}},
		{"one that moves behind the others", 3, 5, []impl.Item{one, two, at(3, 5)}, nil},
		{"one that moves onto its center", 2, 99, []impl.Item{one}, []impl.Item{at(2, 99), three}},
	} {
		wantIvf(t, c.what, impl.AddIvf(x, c.id, []int64{c.place, 0, 0}), listed(onLine(0, 99), c.near, c.far))
	}
	between := listed(onLine(10, 0), nil, nil)
	wantIvf(t, "between two centers", impl.AddIvf(between, 4, []int64{5, 0, 0}), listed(onLine(10, 0), []impl.Item{at(4, 5)}, nil))
	wantIvf(t, "ahead of all", impl.AddIvf(listed(onLine(0), []impl.Item{two, three}), 1, []int64{7, 8, 9}), listed(onLine(0), []impl.Item{itemOf(1, 7, 8, 9), two, three}))
	wantIvf(t, "between others", impl.AddIvf(listed(onLine(0), []impl.Item{one, three}), 2, []int64{7, 8, 9}), listed(onLine(0), []impl.Item{one, itemOf(2, 7, 8, 9), three}))
	wantIvf(t, "the highest Id", impl.AddIvf(listed(onLine(0), nil), 999, []int64{-1000, 1000, -1000}), listed(onLine(0), []impl.Item{itemOf(999, -1000, 1000, -1000)}))
}

func TestDropIvfOfExamples(t *testing.T) {
	items := itemsOnLine(0, 2, 100)
	one, two, three := items[0], items[1], items[2]
	x := listed(onLine(0, 99), []impl.Item{one, two}, []impl.Item{three})
	wantIvf(t, "the first", impl.DropIvf(x, 1), listed(onLine(0, 99), []impl.Item{two}, []impl.Item{three}))
	wantIvf(t, "the last of a list", impl.DropIvf(x, 2), listed(onLine(0, 99), []impl.Item{one}, []impl.Item{three}))
	wantIvf(t, "the only one of a list", impl.DropIvf(x, 3), listed(onLine(0, 99), []impl.Item{one, two}, nil))
	for _, id := range []int64{4, 500, 999} {
		wantIvf(t, "one that is not there", impl.DropIvf(x, id), x)
		wantIvf(t, "one of none", impl.DropIvf(listed(onLine(5, 6), nil, nil), id), listed(onLine(5, 6), nil, nil))
	}
}

// P8: an index to which something is added is that of all items, whether it is new, moves or stays.
func TestAddedIvfIsThatOfAllItems(t *testing.T) {
	edges := edgeVecs()
	for i, x := range manyIndexes() {
		built := impl.BuildIvf(x.list, x.items).Ivf
		p := placesOf(x.items)
		for j, id := range idsBeside(x.items) {
			vec := edges[(i*31+j*7)%729]
			if j%3 == 0 {
				vec = x.list[j%len(x.list)].Vec
			}
			got := impl.AddIvf(built, id, vec)
			if !p.hasRoomFor(id) {
				wantIvfCode(t, "AddIvf to a full index", got, impl.ErrMany)
				continue
			}
			with := placesWith(x.items, id, vec)
			wantIvf(t, "AddIvf", got, ivfOf(x.list, with))
			wantIvf(t, "AddIvf as BuildIvf", got, impl.BuildIvf(x.list, impl.PutItem(x.items, id, vec).Items).Ivf)
			wantTable(t, "ItemsOf what was added", impl.ItemsOf(got.Ivf), with)
			wantIvf(t, "AddIvf again", impl.AddIvf(got.Ivf, id, vec), got.Ivf)
		}
	}
}

// P8: so of one by one, from none on, in whatever order they come.
func TestIvfOfItemsOneByOne(t *testing.T) {
	from := rand.New(rand.NewSource(16))
	for _, x := range manyIndexes() {
		got := impl.BuildIvf(x.list, nil)
		for _, at := range from.Perm(len(x.items)) {
			got = impl.AddIvf(got.Ivf, x.items[at].Id, x.items[at].Vec)
		}
		wantIvf(t, "AddIvf one by one", got, ivfOf(x.list, x.items))
	}
}

// An item that moves through all lists is in one of them, and the others stay.
func TestItemsThatMove(t *testing.T) {
	list := onLine(0, 100, 200, 300, 400, 500)
	items := itemsOnLine(0, 101, 202, 303, 404, 505, 1, 102, 203)
	x := impl.BuildIvf(list, items).Ivf
	for _, id := range []int64{1, 5, 9, 10, 999} {
		moving, with := x, items
		for _, place := range []int64{500, 0, 100, 50, 51, 350, 449, 451, -1000, 1000, 200} {
			vec := []int64{place, 0, 0}
			with = placesWith(with, id, vec)
			got := impl.AddIvf(moving, id, vec)
			wantIvf(t, "AddIvf of one that moves", got, ivfOf(list, with))
			count := 0
			for _, own := range got.Ivf.Lists {
				for _, item := range own.Items {
					if item.Id == id {
						count++
					}
				}
			}
			if count != 1 {
				t.Fatalf("%d stands in %d lists: %v", id, count, got.Ivf)
			}
			wantIvf(t, "DropIvf of one that moved", impl.DropIvf(got.Ivf, id), ivfOf(list, placesWith(with, id, nil)))
			moving = got.Ivf
		}
	}
}

func TestDroppedIvfIsThatOfTheOthers(t *testing.T) {
	for _, x := range manyIndexes() {
		built := impl.BuildIvf(x.list, x.items).Ivf
		for _, id := range idsBeside(x.items) {
			got := impl.DropIvf(built, id)
			fewer := placesWith(x.items, id, nil)
			wantIvf(t, "DropIvf", got, ivfOf(x.list, fewer))
			wantIvf(t, "DropIvf as BuildIvf", got, impl.BuildIvf(x.list, impl.DropItem(x.items, id).Items).Ivf)
			wantIvf(t, "DropIvf again", impl.DropIvf(got.Ivf, id), got.Ivf)
			wantTable(t, "ItemsOf what is left", impl.ItemsOf(got.Ivf), fewer)
		}
	}
}

// In a full index there is room for an Id that is there, wherever it goes, and behind a drop for one more.
func TestFullIvf(t *testing.T) {
	for _, list := range [][]impl.Center{onLine(0), onLine(0, 15, 30), onLine(0, 1, 2, 3, 4, 5)} {
		for _, items := range [][]impl.Item{fullTable(30, 1, 1), fullTable(30, 970, 1), fullTable(30, 2, 3)} {
			full, p := impl.BuildIvf(list, items).Ivf, placesOf(items)
			for id := int64(1); id <= 999; id++ {
				for _, vec := range [][]int64{{0, 0, 0}, {900, 0, 0}} {
					got := impl.AddIvf(full, id, vec)
					if p[id] == nil {
						wantIvfCode(t, "AddIvf to a full index", got, impl.ErrMany)
					} else {
						wantIvf(t, "AddIvf in the place of one", got, ivfOf(list, placesWith(items, id, vec)))
					}
				}
			}
			fewer := impl.DropIvf(full, items[9].Id).Ivf
			wantIvf(t, "AddIvf of what was dropped", impl.AddIvf(fewer, items[9].Id, items[9].Vec), full)
			again := impl.AddIvf(fewer, 400, []int64{4, 5, 6})
			wantIvf(t, "AddIvf of another one", again, ivfOf(list, placesWith(placesWith(items, items[9].Id, nil), 400, []int64{4, 5, 6})))
			wantIvfCode(t, "AddIvf of one more", impl.AddIvf(again.Ivf, items[9].Id, items[9].Vec), impl.ErrMany)
		}
	}
}

func TestProbesOfExamples(t *testing.T) {
	for _, x := range []struct {
		list  []impl.Center
		query []int64
		want  []int64
	}{
		{onLine(7), []int64{-1000, 1000, 1000}, []int64{0}},
		{onLine(0, 99), []int64{60, 0, 0}, []int64{1, 0}},
		{onLine(0, 99), []int64{40, 0, 0}, []int64{0, 1}},
		{onLine(30, 10, 20), []int64{0, 0, 0}, []int64{1, 2, 0}},
		{onLine(30, 10, 20), []int64{1000, 0, 0}, []int64{0, 2, 1}},
		{onLine(60, 10, 50, 20, 40, 30), []int64{34, 9, 9}, []int64{5, 4, 3, 2, 1, 0}},
		{onLine(-1000, 1000, 0), []int64{1, 1000, 1000}, []int64{2, 1, 0}},
	} {
		index := impl.BuildIvf(x.list, nil).Ivf
		for n := range int64(7) {
			wantList(t, "ProbesOf", impl.ProbesOf(index, x.query, n), x.want[:min(int(n), len(x.want))])
		}
	}
}

// Of equally near centers the first one is told first, wherever they stand.
func TestProbesOfEquallyNear(t *testing.T) {
	around := []impl.Center{centerOf(10, 0, 0), centerOf(0, -10, 0), centerOf(0, 0, 10), centerOf(-10, 0, 0), centerOf(0, 6, 8), centerOf(-8, 0, 6)}
	for n := range int64(7) {
		rising := []int64{0, 1, 2, 3, 4, 5}[:n]
		wantList(t, "a ring", impl.ProbesOf(impl.BuildIvf(around, nil).Ivf, []int64{0, 0, 0}, n), rising)
		wantList(t, "one point", impl.ProbesOf(impl.BuildIvf(onLine(3, 3, 3, 3, 3, 3), nil).Ivf, []int64{1, 2, 3}, n), rising)
		wantList(t, "two points", impl.ProbesOf(impl.BuildIvf(onLine(9, 3, 9, 3, 9, 3), nil).Ivf, []int64{0, 0, 0}, n), []int64{1, 3, 5, 0, 2, 4}[:n])
		wantList(t, "between two points", impl.ProbesOf(impl.BuildIvf(onLine(9, 3, 9, 3, 8, 4), nil).Ivf, []int64{6, 0, 0}, n), []int64{4, 5, 0, 1, 2, 3}[:n])
	}
}

// Items do not count: which lists are looked at hangs on the centers alone.
func TestProbesOfManyIndexes(t *testing.T) {
	some, edges := someVecs(60), edgeVecs()
	for i, x := range manyIndexes() {
		index := ivfOf(x.list, x.items)
		queries := append([][]int64{edges[i*5%729], x.list[0].Vec, x.list[len(x.list)-1].Vec}, some[i%50:i%50+8]...)
		for _, query := range queries {
			for n := range int64(7) {
				got := impl.ProbesOf(index, query, n)
				wantList(t, "ProbesOf", got, probesOf(x.list, query, n))
				wantList(t, "ProbesOf without items", impl.ProbesOf(impl.BuildIvf(x.list, nil).Ivf, query, n), got.List)
			}
		}
	}
}

// P8: the lists that are looked at are the nearest ones: none that is left out is nearer, and the first one is that of NearestOf.
func TestProbesAreTheNearest(t *testing.T) {
	some, edges := someVecs(20), edgeVecs()
	for i, x := range manyIndexes() {
		index := ivfOf(x.list, x.items)
		for _, query := range append(some, edges[i*11%729]) {
			for n := int64(1); n <= 6; n++ {
				places := impl.ProbesOf(index, query, n).List
				if len(places) != min(int(n), len(x.list)) || places[0] != impl.NearestOf(x.list, query).Value {
					t.Fatalf("ProbesOf(%v, %v, %d) = %v", x.list, query, n, places)
				}
				last := impl.ScoreOf(x.list[places[len(places)-1]].Vec, query).Value
				for place, center := range x.list {
					if !slices.Contains(places, int64(place)) && impl.ScoreOf(center.Vec, query).Value < last {
						t.Fatalf("ProbesOf(%v, %v, %d) = %v: %d is nearer", x.list, query, n, places, place)
					}
				}
			}
		}
	}
}

func TestSearchIvfOfExamples(t *testing.T) {
	items := itemsOnLine(0, 2, 100)
	x := listed(onLine(0, 99), items[:2], items[2:])
	query := []int64{60, 0, 0}
	wantHits(t, "one list", impl.SearchIvf(x, query, 2, 1), []impl.Hit{{Id: 3, Score: 1600}})
	for n := int64(2); n <= 6; n++ {
		wantHits(t, "all lists", impl.SearchIvf(x, query, 2, n), []impl.Hit{{Id: 3, Score: 1600}, {Id: 2, Score: 3364}})
		wantHits(t, "all lists, all hits", impl.SearchIvf(x, query, 20, n), []impl.Hit{{Id: 3, Score: 1600}, {Id: 2, Score: 3364}, {Id: 1, Score: 3600}})
	}
	for k := range int64(21) {
		wantHits(t, "no lists", impl.SearchIvf(x, query, k, 0), nil)
		wantHits(t, "no items", impl.SearchIvf(listed(onLine(1, 2), nil, nil), query, k, 2), nil)
		wantHits(t, "the nearest list without items", impl.SearchIvf(listed(onLine(60, 0), nil, items[:2]), query, k, 1), nil)
	}
	for n := range int64(7) {
		wantHits(t, "no hits", impl.SearchIvf(x, query, 0, n), nil)
	}
	// The nearest item stands at the center that is farther away.
	lost := listed(onLine(0, 30), []impl.Item{itemOf(5, 15, 0, 0)}, []impl.Item{itemOf(4, 40, 0, 0)})
	wantHits(t, "what is lost", impl.SearchIvf(lost, []int64{16, 0, 0}, 1, 1), []impl.Hit{{Id: 4, Score: 576}})
	wantHits(t, "what is found", impl.SearchIvf(lost, []int64{16, 0, 0}, 1, 2), []impl.Hit{{Id: 5, Score: 1}})
	far := listed([]impl.Center{centerOf(0, 0, 0)}, []impl.Item{itemOf(999, 1000, 1000, 1000)})
	wantHits(t, "from far", impl.SearchIvf(far, []int64{-1000, -1000, -1000}, 20, 6), []impl.Hit{{Id: 999, Score: 12000000}})
	ring := listed(onLine(10, -10), []impl.Item{itemOf(2, 5, 0, 0), itemOf(4, 10, 0, 0)}, []impl.Item{itemOf(1, -10, 0, 0), itemOf(3, -5, 0, 0)})
	wantHits(t, "equally near in two lists", impl.SearchIvf(ring, []int64{0, 0, 0}, 3, 2), []impl.Hit{{Id: 2, Score: 25}, {Id: 3, Score: 25}, {Id: 1, Score: 100}})
	wantHits(t, "the first of two lists", impl.SearchIvf(ring, []int64{0, 0, 0}, 3, 1), []impl.Hit{{Id: 2, Score: 25}, {Id: 4, Score: 100}})
}

// queriesOf are near items, near centers and anywhere.
func queriesOf(x crowd, i int) [][]int64 {
	queries := [][]int64{{0, 0, 0}, x.list[i%len(x.list)].Vec, edgeVecs()[i*13%729], someVecs(100)[i%100]}
	if len(x.items) > 0 {
		queries = append(queries, x.items[i%len(x.items)].Vec)
	}
	return queries
}

func TestSearchIvfOfManyIndexes(t *testing.T) {
	for i, x := range manyIndexes() {
		index := ivfOf(x.list, x.items)
		for _, query := range queriesOf(x, i) {
			for n := range int64(7) {
				for _, k := range []int64{0, 1, 2, 5, 20} {
					wantHits(t, "SearchIvf", impl.SearchIvf(index, query, k, n), foundOf(x.list, x.items, query, k, n))
				}
			}
		}
	}
}

// P8: a search of all lists is the exact one.
func TestSearchOfAllListsIsExact(t *testing.T) {
	for i, x := range manyIndexes() {
		index := impl.BuildIvf(x.list, x.items).Ivf
		for _, query := range queriesOf(x, i) {
			for _, k := range []int64{0, 1, 3, 19, 20} {
				exact := impl.SearchTable(x.items, query, k).Hits
				for n := int64(len(x.list)); n <= 6; n++ {
					wantHits(t, "SearchIvf of all lists", impl.SearchIvf(index, query, k, n), exact)
				}
			}
		}
	}
}

// P8: a search of fewer lists tells only what is there, and it is the exact one of what stands in the lists of ProbesOf.
func TestSearchTellsOnlyWhatIsThere(t *testing.T) {
	for i, x := range manyIndexes() {
		index := impl.BuildIvf(x.list, x.items).Ivf
		for _, query := range queriesOf(x, i) {
			for n := range int64(7) {
				var seen []impl.Hit
				for _, place := range impl.ProbesOf(index, query, n).List {
					seen = append(seen, impl.SearchTable(index.Lists[place].Items, query, 20).Hits...)
				}
				for _, k := range []int64{1, 4, 20} {
					hits := impl.SearchIvf(index, query, k, n).Hits
					for _, h := range hits {
						vec := impl.GetItem(x.items, h.Id)
						if vec.Code != impl.OK || impl.ScoreOf(vec.List, query).Value != h.Score {
							t.Fatalf("SearchIvf(%v, %v, %d, %d) = %v: %v is not there", index, query, k, n, hits, h)
						}
					}
					wantHits(t, "SearchIvf", impl.SearchIvf(index, query, k, n), impl.BestOf(seen, k).Hits)
				}
			}
		}
	}
}

// P8: with more lists a search is never worse: it tells at least as many, and at no rank one that is less good.
func TestMoreListsAreNeverWorse(t *testing.T) {
	gained := 0
	for i, x := range manyIndexes() {
		index := impl.BuildIvf(x.list, x.items).Ivf
		for _, query := range queriesOf(x, i) {
			for _, k := range []int64{1, 4, 20} {
				var fewer []impl.Hit
				for n := range int64(7) {
					hits := impl.SearchIvf(index, query, k, n).Hits
					if len(hits) < len(fewer) {
						t.Fatalf("SearchIvf(%v, %v, %d, %d) = %v, and %v with a list less", index, query, k, n, hits, fewer)
					}
					for rank, h := range fewer {
						if impl.IsBetter(h, hits[rank]) {
							t.Fatalf("SearchIvf(%v, %v, %d, %d) = %v, and %v with a list less", index, query, k, n, hits, fewer)
						}
						if impl.IsBetter(hits[rank], h) {
							gained++
						}
					}
					fewer = hits
				}
			}
		}
	}
	if gained < 100 {
		t.Errorf("only %d hits were made better by a list more", gained)
	}
}

// What is looked for is what was added, wherever it moved to, and not what was dropped.
func TestSearchOfWhatMoved(t *testing.T) {
	list := onLine(0, 100, 200)
	x := impl.BuildIvf(list, itemsOnLine(0, 101, 202)).Ivf
	x = impl.AddIvf(x, 1, []int64{205, 0, 0}).Ivf
	wantHits(t, "where it was", impl.SearchIvf(x, []int64{0, 0, 0}, 5, 1), nil)
	wantHits(t, "where it is", impl.SearchIvf(x, []int64{205, 0, 0}, 5, 1), []impl.Hit{{Id: 1, Score: 0}, {Id: 3, Score: 9}})
	x = impl.DropIvf(x, 1).Ivf
	wantHits(t, "where it was dropped", impl.SearchIvf(x, []int64{205, 0, 0}, 5, 1), []impl.Hit{{Id: 3, Score: 9}})
	wantHits(t, "everywhere", impl.SearchIvf(x, []int64{0, 0, 0}, 5, 3), []impl.Hit{{Id: 2, Score: 10201}, {Id: 3, Score: 40804}})
}
