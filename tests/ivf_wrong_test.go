package tests

import (
	"slices"
	"testing"

	"loop.example/g00357/impl"
)

func wantIvfCode(t *testing.T, what string, got impl.IvfResult, code int64) {
	t.Helper()
	if got.Code != code || len(got.Ivf.Centers) != 0 || len(got.Ivf.Lists) != 0 {
		t.Fatalf("%s: %+v, want the code %d alone", what, got, code)
	}
}

// wrongIvf is no index, and has the code that is named first of it.
type wrongIvf struct {
	x    impl.Ivf
	code int64
}

// atLine are n items at one place, with Ids from the first one on.
func atLine(n, first, place int64) []impl.Item {
	var list []impl.Item
	for i := range n {
		list = append(list, itemOf(first+i, place, 0, 0))
	}
	return list
}

// wrongInCenters have a fault of their centers, whatever their lists are.
func wrongInCenters() []wrongIvf {
	var list []wrongIvf
	for _, c := range wrongCenterLists() {
		few := min(len(c.list), 8)
		list = append(list, wrongIvf{impl.Ivf{Centers: c.list, Lists: make([]impl.IvfList, few)}, c.code})
		list = append(list, wrongIvf{impl.Ivf{Centers: c.list, Lists: make([]impl.IvfList, few+1)}, c.code})
		list = append(list, wrongIvf{listed(c.list, atLine(31, 1, 1)), c.code})
		list = append(list, wrongIvf{listed(c.list, []impl.Item{{}}, []impl.Item{{Id: 1}}), c.code})
	}
	return list
}

// wrongInNumber have not as many lists as centers, whatever is in them.
func wrongInNumber() []wrongIvf {
	var list []wrongIvf
	for n := 1; n <= 6; n++ {
		for lists := range 10 {
			if lists == n {
				continue
			}
			x := impl.Ivf{Centers: onLine(0, 10, 20, 30, 40, 50)[:n], Lists: make([]impl.IvfList, lists)}
			list = append(list, wrongIvf{x, impl.ErrForm})
			if lists > 0 {
				many, out := x, x
				many.Lists = slices.Clone(x.Lists)
				many.Lists[0].Items = atLine(31, 1, 0)
				out.Lists = slices.Clone(x.Lists)
				out.Lists[lists-1].Items = []impl.Item{itemOf(0, 0, 0, 0)}
				list = append(list, wrongIvf{many, impl.ErrForm}, wrongIvf{out, impl.ErrForm})
			}
		}
	}
	return list
}

// wrongInList have a list with a fault, at each place.
func wrongInList() []wrongIvf {
	var list []wrongIvf
	for n := 1; n <= 3; n++ {
		for place := range n {
			for _, own := range wrongTables() {
				x := impl.Ivf{Centers: onLine(0, 100, 200)[:n], Lists: make([]impl.IvfList, n)}
				x.Lists[place].Items = own.items
				list = append(list, wrongIvf{x, own.code})
			}
		}
	}
	return list
}

// wrongInPlace have items in lists that are not their nearest center's.
func wrongInPlace() []wrongIvf {
	at := func(id, place int64) []impl.Item { return []impl.Item{itemOf(id, place, 0, 0)} }
	list := []wrongIvf{
		{listed(onLine(0, 10), at(1, 6), nil), impl.ErrForm},
		{listed(onLine(0, 10), nil, at(1, 4)), impl.ErrForm},
		{listed(onLine(0, 10), nil, at(1, 5)), impl.ErrForm},
		{listed(onLine(10, 0), nil, at(1, 5)), impl.ErrForm},
		{listed(onLine(5, 5), nil, at(1, 5)), impl.ErrForm},
		{listed(onLine(9, 5, 5), nil, nil, at(1, 5)), impl.ErrForm},
		{listed(onLine(0, 10), at(1, 10), at(2, 0)), impl.ErrForm},
		{listed(onLine(0, 10), []impl.Item{itemOf(1, 0, 0, 0), itemOf(2, 0, 0, 0), itemOf(3, 10, 0, 0)}, nil), impl.ErrForm},
		{listed(onLine(0, 10), at(1, 0), []impl.Item{itemOf(2, 0, 0, 0), itemOf(3, 10, 0, 0)}), impl.ErrForm},
		{listed(onLine(0, 10), at(1, 0), at(1, 0)), impl.ErrForm},
	}
	for place := range 6 {
		for own := range 6 {
			if place != own {
				x := impl.Ivf{Centers: onLine(0, 10, 20, 30, 40, 50), Lists: make([]impl.IvfList, 6)}
				x.Lists[place].Items = at(7, int64(own*10))
				list = append(list, wrongIvf{x, impl.ErrForm})
			}
		}
	}
	return list
}

// wrongInAll have lists without a fault, which do not go together.
func wrongInAll() []wrongIvf {
	at := func(id, place int64) []impl.Item { return []impl.Item{itemOf(id, place, 0, 0)} }
	list := []wrongIvf{
		{listed(onLine(0, 10), at(1, 0), at(1, 10)), impl.ErrTaken},
		{listed(onLine(0, 10, 20), at(1, 0), nil, at(1, 20)), impl.ErrTaken},
		{listed(onLine(0, 10, 20), at(1, 0), at(1, 10), at(1, 20)), impl.ErrTaken},
		{listed(onLine(0, 10), atLine(5, 1, 0), atLine(5, 5, 10)), impl.ErrTaken},
		{listed(onLine(0, 10), atLine(5, 5, 0), atLine(5, 1, 10)), impl.ErrTaken},
		{listed(onLine(0, 10), atLine(16, 1, 0), atLine(15, 17, 10)), impl.ErrMany},
		{listed(onLine(0, 10), atLine(30, 1, 0), at(999, 10)), impl.ErrMany},
		{listed(onLine(0, 10), at(999, 0), atLine(30, 1, 10)), impl.ErrMany},
		{listed(onLine(0, 10), atLine(30, 31, 0), atLine(30, 1, 10)), impl.ErrMany},
		{listed(onLine(0, 10, 20, 30, 40, 50), atLine(6, 1, 0), atLine(5, 11, 10), atLine(5, 21, 20), atLine(5, 31, 30), atLine(5, 41, 40), atLine(5, 51, 50)), impl.ErrMany},
		{listed(onLine(0, 10, 20, 30, 40, 50), atLine(30, 1, 0), atLine(30, 31, 10), atLine(30, 61, 20), atLine(30, 91, 30), atLine(30, 121, 40), atLine(30, 151, 50)), impl.ErrMany},
	}
	// An Id that stands in two lists is told ahead of too many items, wherever it stands.
	list = append(list,
		wrongIvf{listed(onLine(0, 10), atLine(30, 1, 0), atLine(30, 1, 10)), impl.ErrTaken},
		wrongIvf{listed(onLine(0, 10), atLine(30, 1, 0), at(30, 10)), impl.ErrTaken},
		wrongIvf{listed(onLine(0, 10), atLine(16, 1, 0), atLine(16, 16, 10)), impl.ErrTaken},
		wrongIvf{listed(onLine(0, 10, 20, 30), atLine(30, 1, 0), atLine(30, 31, 10), atLine(30, 61, 20), at(61, 30)), impl.ErrTaken},
	)
	for first := range 6 {
		for second := range first {
			x := impl.Ivf{Centers: onLine(0, 10, 20, 30, 40, 50), Lists: make([]impl.IvfList, 6)}
			x.Lists[first].Items, x.Lists[second].Items = at(9, int64(first*10)), at(9, int64(second*10))
			list = append(list, wrongIvf{x, impl.ErrTaken})
		}
	}
	return list
}

// wrongInOrder have several faults: list by list each one is asked all, and all of them ahead of how they go together.
func wrongInOrder() []wrongIvf {
	at := func(id, place int64) []impl.Item { return []impl.Item{itemOf(id, place, 0, 0)} }
	out, short := []impl.Item{itemOf(1000, 0, 0, 0)}, []impl.Item{{Id: 1}}
	moved := []impl.Item{itemOf(1, 10, 0, 0)}
	return []wrongIvf{
		{listed(onLine(0, 10), moved, out), impl.ErrForm},
		{listed(onLine(0, 10), moved, atLine(31, 1, 10)), impl.ErrForm},
		{listed(onLine(0, 10), out, short), impl.ErrRange},
		{listed(onLine(0, 10), short, out), impl.ErrForm},
		{listed(onLine(0, 10), out, at(1, 0)), impl.ErrRange},
		{listed(onLine(0, 10), atLine(31, 1, 0), out), impl.ErrMany},
		{listed(onLine(0, 10), out, atLine(31, 1, 10)), impl.ErrRange},
		// Of one list the table's fault is told ahead of an item that is nearer to another center.
		{listed(onLine(0, 10), append(at(1, 10), itemOf(1000, 0, 0, 0)), nil), impl.ErrRange},
		{listed(onLine(0, 10), atLine(31, 1, 10), nil), impl.ErrMany},
		{listed(onLine(0, 10), append(at(1, 10), itemOf(2, 0, 0, 1001)), nil), impl.ErrRange},
		// A list with a fault is told ahead of an Id in two lists ahead of it, and of too many items.
		{listed(onLine(0, 10, 20), at(1, 0), at(1, 10), out), impl.ErrRange},
		{listed(onLine(0, 10, 20), at(1, 0), at(1, 10), atLine(31, 1, 20)), impl.ErrMany},
		{listed(onLine(0, 10, 20), at(1, 0), at(1, 10), at(2, 0)), impl.ErrForm},
		{listed(onLine(0, 10, 20), atLine(30, 1, 0), atLine(30, 31, 10), out), impl.ErrRange},
		{listed(onLine(0, 10, 20), atLine(30, 1, 0), atLine(30, 31, 10), at(99, 0)), impl.ErrForm},
	}
}

func wrongIndexes() []wrongIvf {
	return slices.Concat(wrongInCenters(), wrongInNumber(), wrongInPlace(), wrongInAll(), wrongInOrder(), wrongInList())
}

func TestWrongIndexes(t *testing.T) {
	for _, w := range wrongIndexes() {
		if code := impl.IvfFault(w.x); code != w.code {
			t.Fatalf("IvfFault(%v) = %d, want %d", w.x, code, w.code)
		}
	}
	if code := impl.IvfFault(impl.Ivf{}); code != impl.ErrMany {
		t.Errorf("IvfFault of nothing = %d", code)
	}
	// As many as there is room for are no fault, however they are laid out.
	for _, x := range []impl.Ivf{
		listed(onLine(0, 10), atLine(30, 1, 0), nil),
		listed(onLine(0, 10), nil, atLine(30, 970, 10)),
		listed(onLine(0, 10), atLine(15, 16, 0), atLine(15, 1, 10)),
		listed(onLine(0, 10), atLine(15, 1, 5), atLine(15, 16, 6)),
	} {
		if code := impl.IvfFault(x); code != impl.OK {
			t.Errorf("IvfFault(%v) = %d", x, code)
		}
	}
}

// P1: an index with a fault is told ahead of all else, whatever else is wrong.
func TestIndexesAreAskedFirst(t *testing.T) {
	for _, w := range wrongIndexes() {
		wantTableCode(t, "ItemsOf, index wrong", impl.ItemsOf(w.x), w.code)
		for _, vec := range [][]int64{{0, 0, 0}, {1, 2}, {0, 0, 1001}} {
			for _, id := range []int64{1, 999, 0, 1000} {
				wantIvfCode(t, "AddIvf, index wrong", impl.AddIvf(w.x, id, vec), w.code)
				wantIvfCode(t, "DropIvf, index wrong", impl.DropIvf(w.x, id), w.code)
			}
			for _, n := range []int64{0, 1, 6, -1, 7} {
				wantListCode(t, "ProbesOf, index wrong", impl.ProbesOf(w.x, vec, n), w.code)
				for _, k := range []int64{0, 20, -1} {
					wantHitsCode(t, "SearchIvf, index wrong", impl.SearchIvf(w.x, vec, k, n), w.code)
				}
			}
		}
	}
}

// The centers are asked ahead of the items.
func TestWrongBuilds(t *testing.T) {
	for _, c := range wrongCenterLists() {
		for _, items := range [][]impl.Item{nil, itemsOnLine(1, 2, 3), fullTable(31, 1, 1), {{Id: 1}}, {itemOf(0, 1, 2, 3)}} {
			wantIvfCode(t, "BuildIvf, centers wrong", impl.BuildIvf(c.list, items), c.code)
		}
	}
	for _, list := range goodCenters() {
		for _, x := range wrongTables() {
			wantIvfCode(t, "BuildIvf, items wrong", impl.BuildIvf(list, x.items), x.code)
		}
	}
}

// goodIndexes have room, no room, and no items.
func goodIndexes() []impl.Ivf {
	var list []impl.Ivf
	for _, centers := range goodCenters() {
		for _, items := range goodTables() {
			list = append(list, ivfOf(centers, items))
		}
	}
	return list
}

// The id is asked ahead of the vector, and both ahead of whether there is room.
func TestWrongAddsToIndexes(t *testing.T) {
	for _, x := range goodIndexes() {
		for _, id := range wrongIds() {
			wantIvfCode(t, "AddIvf, id wrong", impl.AddIvf(x, id, []int64{1, 2, 3}), impl.ErrRange)
			for _, v := range wrongVecs() {
				wantIvfCode(t, "AddIvf, both wrong", impl.AddIvf(x, id, v.v), impl.ErrRange)
			}
		}
		for _, v := range wrongVecs() {
			for _, id := range []int64{1, 5, 30, 31, 999} {
				wantIvfCode(t, "AddIvf, vec wrong", impl.AddIvf(x, id, v.v), v.code)
			}
		}
	}
	for _, centers := range goodCenters() {
		for _, id := range []int64{31, 500, 999} {
			wantIvfCode(t, "AddIvf, no room", impl.AddIvf(ivfOf(centers, fullTable(30, 1, 1)), id, []int64{1, 2, 3}), impl.ErrMany)
		}
	}
}

func TestWrongDropsFromIndexes(t *testing.T) {
	for _, x := range goodIndexes() {
		for _, id := range wrongIds() {
			wantIvfCode(t, "DropIvf, id wrong", impl.DropIvf(x, id), impl.ErrRange)
		}
	}
}

func wrongProbes() []int64 {
	return append(outOf(0, 6), 20, 1<<32, 1<<32+1, -1<<32)
}

// The query is asked ahead of k and n; n may be no more than MaxCenters, also where there are fewer.
func TestWrongSearchesOfIndexes(t *testing.T) {
	query := []int64{1, 2, 3}
	for _, x := range goodIndexes() {
		for _, n := range wrongProbes() {
			wantListCode(t, "ProbesOf, n wrong", impl.ProbesOf(x, query, n), impl.ErrRange)
			for _, k := range append(wrongCounts(), 0, 1, 20) {
				wantHitsCode(t, "SearchIvf, n wrong", impl.SearchIvf(x, query, k, n), impl.ErrRange)
			}
		}
		for n := range int64(7) {
			for _, k := range wrongCounts() {
				wantHitsCode(t, "SearchIvf, k wrong", impl.SearchIvf(x, query, k, n), impl.ErrRange)
			}
		}
		for _, v := range wrongVecs() {
			for _, n := range []int64{0, 1, 6, -1, 7} {
				wantListCode(t, "ProbesOf, query wrong", impl.ProbesOf(x, v.v, n), v.code)
				for _, k := range []int64{0, 1, 20, -1, 21} {
					wantHitsCode(t, "SearchIvf, query wrong", impl.SearchIvf(x, v.v, k, n), v.code)
				}
			}
		}
	}
}

// spareIvf is an index with room behind each of its lists, and what tells whether any of it was changed.
func spareIvf(was impl.Ivf) (x impl.Ivf, changed func() bool) {
	centers, centersRoom, vecs := spareCenters(was.Centers)
	x.Centers = centers
	var rooms [][]impl.Item
	for _, own := range was.Lists {
		items, room, itemVecs := spareItems(own.Items)
		x.Lists = append(x.Lists, impl.IvfList{Items: items})
		rooms, vecs = append(rooms, room), append(vecs, itemVecs...)
	}
	lists := append(x.Lists, impl.IvfList{Items: atLine(1, 77, 7)}, impl.IvfList{Items: atLine(1, 78, 7)})
	x.Lists = lists[:len(was.Lists)]
	wasCenters, wasVecs, wasRooms := cloneCenters(centersRoom), [][]int64{}, [][]impl.Item{}
	for _, v := range vecs {
		wasVecs = append(wasVecs, slices.Clone(v))
	}
	for _, room := range rooms {
		wasRooms = append(wasRooms, cloneItems(room))
	}
	wasLists := cloneIvf(impl.Ivf{Lists: lists})
	return x, func() bool {
		return !alikeCenters(centersRoom, wasCenters) || !slices.EqualFunc(vecs, wasVecs, slices.Equal[[]int64]) ||
			!slices.EqualFunc(rooms, wasRooms, alikeItems) || !alikeIvf(impl.Ivf{Lists: lists}, wasLists)
	}
}

func cloneIvf(x impl.Ivf) impl.Ivf {
	other := impl.Ivf{Centers: cloneCenters(x.Centers)}
	for _, own := range x.Lists {
		other.Lists = append(other.Lists, impl.IvfList{Items: cloneItems(own.Items)})
	}
	return other
}

func scribbleIvf(x impl.Ivf) {
	scribbleCenters(x.Centers)
	for i := range x.Lists {
		scribbleItems(x.Lists[i].Items)
		x.Lists[i] = impl.IvfList{Items: []impl.Item{{Id: 85}}}
	}
	_ = append(x.Lists, impl.IvfList{Items: []impl.Item{{Id: 84}}})
}

// askIvf calls all functions of an index, and writes over all that they answer.
func askIvf(x impl.Ivf, items []impl.Item, id int64, vec []int64, k, n int64) {
	impl.IvfFault(x)
	scribbleIvf(impl.BuildIvf(x.Centers, items).Ivf)
	scribbleIvf(impl.AddIvf(x, id, vec).Ivf)
	scribbleIvf(impl.DropIvf(x, id).Ivf)
	scribbleInts(impl.ProbesOf(x, vec, n).List)
	scribble(impl.SearchIvf(x, vec, k, n).Hits)
	scribbleItems(impl.ItemsOf(x).Items)
}

// P1: no argument is changed, not even what lies behind it, nor by a change of the answer.
func TestIndexesStay(t *testing.T) {
	indexes := append(goodIndexes(), ivfOf(onLine(0, 500, 10), itemsOnLine(1, 2, 12)))
	for _, w := range slices.Concat(wrongInCenters()[:40], wrongInNumber(), wrongInPlace(), wrongInAll(), wrongInOrder(), wrongInList()[:40]) {
		indexes = append(indexes, w.x)
	}
	for _, was := range indexes {
		x, changed := spareIvf(was)
		items, itemsRoom, itemsVecs := spareItems(itemsOnLine(5, 400, 20))
		wasRoom, wasVecs := cloneItems(itemsRoom), [][]int64{}
		for _, v := range itemsVecs {
			wasVecs = append(wasVecs, slices.Clone(v))
		}
		for _, id := range []int64{1, 5, 31, 999, 0} {
			for _, v := range [][]int64{{4, 5, 6}, {999, 0, 0}, {1, 2}, {0, 0, 1001}} {
				vec, room := spareOf(v)
				wasVec := slices.Clone(room)
				askIvf(x, items, id, vec, 20, 6)
				askIvf(x, items, id, vec, id, id%8-1)
				if !slices.Equal(room, wasVec) {
					t.Fatalf("%v was changed to %v", wasVec, room)
				}
			}
		}
		if changed() {
			t.Fatalf("%v was changed to %v", was, x)
		}
		if !alikeItems(itemsRoom, wasRoom) || !slices.EqualFunc(itemsVecs, wasVecs, slices.Equal[[]int64]) {
			t.Fatalf("%v was changed to %v", wasRoom, itemsRoom)
		}
	}
}

// indexesFrom are all answers with an index: of arguments that are made anew, and what is called once the answers are there, to change all that was given.
func indexesFrom() (answers map[string]impl.Ivf, spoil func()) {
	list, items, vec := onLine(0, 500, 10), itemsOnLine(0, 1, 9, 10, 11, 2), []int64{12, 5, 6}
	x := ivfOf(list, items)
	answers = map[string]impl.Ivf{
		"BuildIvf":                         impl.BuildIvf(list, items).Ivf,
		"BuildIvf without items":           impl.BuildIvf(list, nil).Ivf,
		"BuildIvf, the Vec of an item":     impl.BuildIvf([]impl.Center{{Vec: items[0].Vec}, {Vec: items[0].Vec}, {Vec: items[3].Vec}}, items).Ivf,
		"AddIvf of a new one":              impl.AddIvf(x, 40, vec).Ivf,
		"AddIvf of one that moves":         impl.AddIvf(x, 1, vec).Ivf,
		"AddIvf of one that stays":         impl.AddIvf(x, 4, x.Lists[2].Items[1].Vec).Ivf,
		"AddIvf, the vec being a center's": impl.AddIvf(x, 40, x.Centers[1].Vec).Ivf,
		"DropIvf":                          impl.DropIvf(x, 4).Ivf,
		"DropIvf of what is not there":     impl.DropIvf(x, 400).Ivf,
		"ItemsOf":                          {Centers: onLine(1), Lists: []impl.IvfList{{Items: impl.ItemsOf(x).Items}}},
		"ProbesOf":                         {Centers: []impl.Center{{Vec: impl.ProbesOf(x, vec, 3).List}}},
	}
	return answers, func() {
		scribbleCenters(list)
		scribbleItems(items)
		scribbleInts(vec)
		scribbleIvf(x)
	}
}

// P1: an answer stays as it is, whatever becomes of the arguments that it came from.
func TestIndexesAreNotShared(t *testing.T) {
	want, _ := indexesFrom()
	got, spoil := indexesFrom()
	spoil()
	for what, x := range got {
		if len(x.Centers) == 0 || !alikeIvf(x, want[what]) {
			t.Errorf("%s: %v became %v by a change of what was given", what, want[what], x)
		}
	}
}

// vecsOf are all vectors of an index.
func vecsOf(x impl.Ivf) [][]int64 {
	var vecs [][]int64
	for _, center := range x.Centers {
		vecs = append(vecs, center.Vec)
	}
	for _, own := range x.Lists {
		for _, item := range own.Items {
			vecs = append(vecs, item.Vec)
		}
	}
	return vecs
}

// wantApart writes over each list of an answer, and asks that no other one becomes another one by it.
func wantApart(t *testing.T, what string, answer func() impl.Ivf) {
	t.Helper()
	want := cloneIvf(answer())
	for at := range vecsOf(want) {
		x := answer()
		vecs := vecsOf(x)
		scribbleInts(vecs[at])
		for other, vec := range vecsOf(want) {
			if other != at && !slices.Equal(vecs[other], vec) {
				t.Fatalf("%s: %v became %v by a change of another list", what, vec, vecs[other])
			}
		}
	}
	for at := range want.Lists {
		x := answer()
		for i := range x.Lists[at].Items {
			x.Lists[at].Items[i] = impl.Item{Id: 88}
		}
		for all := x.Lists[at].Items; len(all) < cap(all); {
			all = append(all, impl.Item{Id: 87})
		}
		x.Lists[at] = want.Lists[at]
		if !alikeIvf(x, want) {
			t.Fatalf("%s: %v became %v by a change of the list at %d", what, want, x, at)
		}
	}
}

// P1: no two lists of one answer share any memory, not even behind their ends.
func TestListsOfOneIndexAreApart(t *testing.T) {
	all, _ := indexesFrom()
	for what := range all {
		wantApart(t, what, func() impl.Ivf {
			answers, _ := indexesFrom()
			return answers[what]
		})
	}
}

// P1: the lists of an answer are apart also where those that were given were one.
func TestIndexesOfOneVector(t *testing.T) {
	one := []int64{1, 2, 3}
	list := slices.Repeat([]impl.Center{{Vec: one}}, 6)
	var items []impl.Item
	for id := int64(1); id <= 10; id++ {
		items = append(items, impl.Item{Id: id, Vec: one})
	}
	x := impl.Ivf{Centers: list, Lists: make([]impl.IvfList, 6)}
	x.Lists[0].Items = items
	for what, answer := range map[string]func() impl.Ivf{
		"BuildIvf": func() impl.Ivf { return impl.BuildIvf(list, items).Ivf },
		"AddIvf":   func() impl.Ivf { return impl.AddIvf(x, 5, one).Ivf },
		"DropIvf":  func() impl.Ivf { return impl.DropIvf(x, 50).Ivf },
	} {
		wantIvf(t, what, impl.IvfResult{Ivf: answer()}, x)
		wantApart(t, what, answer)
		if !slices.Equal(one, []int64{1, 2, 3}) {
			t.Fatalf("%s: what was given became %v", what, one)
		}
	}
}

// P1: each answer is new memory, and the same whatever was called or changed ahead of it.
func TestIndexesAreNew(t *testing.T) {
	want, _ := indexesFrom()
	first, _ := indexesFrom()
	kept, _ := indexesFrom()
	for _, x := range first {
		scribbleIvf(x)
	}
	impl.BuildIvf(onLine(7, 8, 9), fullTable(31, 1, 1))
	impl.AddIvf(ivfOf(onLine(7, 8), fullTable(30, 1, 1)), 999, []int64{1, 2, 3})
	again, _ := indexesFrom()
	for what, x := range want {
		if !alikeIvf(kept[what], x) || !alikeIvf(again[what], x) {
			t.Errorf("%s: %v became %v and %v by a change of another answer", what, x, kept[what], again[what])
		}
	}
}

// P1: hits of a search are new, too.
func TestSearchesOfIndexesAreNew(t *testing.T) {
	x, query := ivfOf(onLine(0, 9, 20), fullTable(30, 1, 1)), []int64{0, 0, 1000}
	first, kept := impl.SearchIvf(x, query, 20, 2), impl.SearchIvf(x, query, 20, 2)
	want := slices.Clone(kept.Hits)
	scribble(first.Hits)
	wantHits(t, "SearchIvf", impl.SearchIvf(x, query, 20, 2), want)
	scribbleIvf(x)
	scribbleInts(query)
	wantHits(t, "SearchIvf, what was given being changed", kept, want)
}

// P1: calls at the same time keep nothing that another one could see (a run with -race tells of it as well).
func TestIndexesBesideOneAnother(t *testing.T) {
	done := make(chan bool)
	list, items := onLine(0, 7, 14, 21), fullTable(29, 1, 2)
	shared := ivfOf(list, items)
	for worker := range int64(8) {
		vec := []int64{worker * 3, -worker, 1000}
		with := ivfOf(list, placesWith(items, 100+worker, vec))
		found := foundOf(list, items, vec, 5, worker%4)
		go func() {
			right := true
			for range 100 {
				got := impl.AddIvf(shared, 100+worker, vec).Ivf
				right = right && alikeIvf(got, with) && alikeIvf(impl.DropIvf(got, 100+worker).Ivf, shared)
				right = right && slices.Equal(impl.SearchIvf(shared, vec, 5, worker%4).Hits, found)
				right = right && alikeItems(impl.ItemsOf(shared).Items, items) && alikeIvf(impl.BuildIvf(list, items).Ivf, shared)
			}
			done <- right
		}()
	}
	for range 8 {
		if !<-done {
			t.Error("a call answered otherwise beside others")
		}
	}
}
