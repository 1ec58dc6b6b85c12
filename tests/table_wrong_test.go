package tests

import (
	"math"
	"slices"
	"testing"

	"loop.example/g00357/impl"
)

func wantTableCode(t *testing.T, what string, got impl.TableResult, code int64) {
	t.Helper()
	if got.Code != code || len(got.Items) != 0 {
		t.Fatalf("%s: %+v, want the code %d alone", what, got, code)
	}
}

// wrongTable is no table, and has the code that is named first of it.
type wrongTable struct {
	items []impl.Item
	code  int64
}

func wrongIds() []int64 {
	return append(outOf(1, 999), -1000, 1<<32+5, math.MinInt64+1)
}

// withItem is a full table with another item at one place.
func withItem(place int, item impl.Item) []impl.Item {
	items := fullTable(30, 10, 10)
	items[place] = item
	return items
}

// wrongAtPlaces have one item with a fault, or with several: its Id is asked ahead of its vector, and that ahead of whether it rises.
func wrongAtPlaces() []wrongTable {
	var list []wrongTable
	for _, place := range []int{0, 1, 14, 28, 29} {
		own := int64(place*10 + 10)
		for _, id := range wrongIds() {
			list = append(list, wrongTable{withItem(place, itemOf(id, 1, 2, 3)), impl.ErrRange})
			list = append(list, wrongTable{withItem(place, itemOf(id, 1, 2, 3))[:place+1], impl.ErrRange})
			list = append(list, wrongTable{withItem(place, impl.Item{Id: id, Vec: []int64{1, 2}}), impl.ErrRange})
		}
		for _, x := range wrongVecs() {
			list = append(list, wrongTable{withItem(place, impl.Item{Id: own, Vec: x.v}), x.code})
			if place > 0 {
				list = append(list, wrongTable{withItem(place, impl.Item{Id: own - 10, Vec: x.v}), x.code})
			}
		}
		if place > 0 {
			for _, id := range []int64{own - 10, own - 11, 1} {
				list = append(list, wrongTable{withItem(place, itemOf(id, 1, 2, 3)), impl.ErrForm})
			}
			turned := fullTable(30, 10, 10)
			turned[place-1], turned[place] = turned[place], turned[place-1]
			list = append(list, wrongTable{turned, impl.ErrForm})
		}
	}
	return list
}

func wrongTables() []wrongTable {
	a, b := itemOf(1, 0, 0, 0), itemOf(2, 0, 0, 0)
	short, far := impl.Item{Id: 3, Vec: []int64{1, 2}}, itemOf(3, 0, 0, 1001)
	list := []wrongTable{
		{fullTable(31, 1, 1), impl.ErrMany},
		{fullTable(300, 1, 1), impl.ErrMany},
		{make([]impl.Item, 31), impl.ErrMany},
		{slices.Repeat([]impl.Item{a}, 31), impl.ErrMany},
		{append(fullTable(30, 1, 1), itemOf(0, 0, 0, 0)), impl.ErrMany},
		{append([]impl.Item{short}, fullTable(30, 4, 1)...), impl.ErrMany},
		{make([]impl.Item, 30), impl.ErrRange},
		{[]impl.Item{{}}, impl.ErrRange},
		{[]impl.Item{{Id: 1}}, impl.ErrForm},
		{[]impl.Item{a, a}, impl.ErrForm},
		{[]impl.Item{b, a}, impl.ErrForm},
		{[]impl.Item{a, b, a}, impl.ErrForm},
		{[]impl.Item{b, itemOf(999, 1, 1, 1), itemOf(998, 1, 1, 1)}, impl.ErrForm},
		// One by one: what is wrong with an item ahead is told, whatever is wrong behind it.
		{[]impl.Item{b, a, itemOf(0, 0, 0, 0)}, impl.ErrForm},
		{[]impl.Item{b, a, far}, impl.ErrForm},
		{[]impl.Item{far, a, a}, impl.ErrRange},
		{[]impl.Item{short, itemOf(1000, 0, 0, 0)}, impl.ErrForm},
		{[]impl.Item{far, short}, impl.ErrRange},
		{[]impl.Item{short, far}, impl.ErrForm},
		{[]impl.Item{itemOf(1000, 0, 0, 0), short}, impl.ErrRange},
		// Of one item: its Id, its vector, and then whether it rises.
		{[]impl.Item{b, itemOf(0, 0, 0, 0)}, impl.ErrRange},
		{[]impl.Item{b, itemOf(1, 0, 1001, 0)}, impl.ErrRange},
		{[]impl.Item{b, {Id: 0, Vec: []int64{1}}}, impl.ErrRange},
	}
	return append(list, wrongAtPlaces()...)
}

// P1: a table with a fault has the code that is named first.
func TestWrongTables(t *testing.T) {
	for _, x := range wrongTables() {
		if code := impl.TableFault(x.items); code != x.code {
			t.Errorf("TableFault(%v) = %d, want %d", x.items, code, x.code)
		}
	}
}

// The table is asked ahead of all else, whatever else is wrong.
func TestTableIsAskedFirst(t *testing.T) {
	for _, x := range wrongTables() {
		for _, id := range []int64{1, 500, 999, 0, 1000} {
			for _, vec := range [][]int64{{1, 2, 3}, {1, 2}, {0, 0, 1001}} {
				wantTableCode(t, "PutItem, table wrong", impl.PutItem(x.items, id, vec), x.code)
			}
			wantTableCode(t, "DropItem, table wrong", impl.DropItem(x.items, id), x.code)
			wantListCode(t, "GetItem, table wrong", impl.GetItem(x.items, id), x.code)
		}
		for _, k := range []int64{0, 1, 20, -1, 21} {
			for _, query := range [][]int64{{1, 2, 3}, {1, 2}, {0, 0, 1001}} {
				wantHitsCode(t, "SearchTable, table wrong", impl.SearchTable(x.items, query, k), x.code)
			}
		}
		for _, w := range []impl.Write{putOf(1, 1, 1, 1, 1, 1), dropOf(1, 1, 1), {}, {Kind: 1}, {Kind: 2, Id: 1, Session: 1, Seq: 1, Vec: []int64{1, 2, 3}}} {
			wantTableCode(t, "ApplyWrite, table wrong", impl.ApplyWrite(x.items, w), x.code)
		}
	}
}

// goodTables are asked for nothing: what is wrong then is another argument.
func goodTables() [][]impl.Item {
	return [][]impl.Item{nil, {itemOf(5, 1, 2, 3)}, fullTable(29, 1, 1), fullTable(30, 1, 1)}
}

// The id is asked ahead of the vector, and both ahead of whether there is room.
func TestWrongPuts(t *testing.T) {
	for _, items := range goodTables() {
		for _, id := range wrongIds() {
			wantTableCode(t, "PutItem, id wrong", impl.PutItem(items, id, []int64{1, 2, 3}), impl.ErrRange)
			for _, x := range wrongVecs() {
				wantTableCode(t, "PutItem, both wrong", impl.PutItem(items, id, x.v), impl.ErrRange)
			}
		}
		for _, x := range wrongVecs() {
			for _, id := range []int64{1, 5, 30, 31, 999} {
				wantTableCode(t, "PutItem, vec wrong", impl.PutItem(items, id, x.v), x.code)
			}
		}
	}
	for _, id := range []int64{31, 500, 999} {
		wantTableCode(t, "PutItem, no room", impl.PutItem(fullTable(30, 1, 1), id, []int64{1, 2, 3}), impl.ErrMany)
	}
}

func TestWrongDropsAndGets(t *testing.T) {
	for _, items := range goodTables() {
		for _, id := range wrongIds() {
			wantTableCode(t, "DropItem, id wrong", impl.DropItem(items, id), impl.ErrRange)
			wantListCode(t, "GetItem, id wrong", impl.GetItem(items, id), impl.ErrRange)
		}
		wantListCode(t, "GetItem of none", impl.GetItem(items, 999), impl.ErrNone)
	}
}

// The query is asked ahead of k.
func TestWrongSearches(t *testing.T) {
	for _, items := range goodTables() {
		for _, k := range wrongCounts() {
			wantHitsCode(t, "SearchTable, k wrong", impl.SearchTable(items, []int64{1, 2, 3}, k), impl.ErrRange)
		}
		for _, x := range wrongVecs() {
			for _, k := range append(wrongCounts(), 0, 1, 20) {
				wantHitsCode(t, "SearchTable, query wrong", impl.SearchTable(items, x.v, k), x.code)
			}
		}
	}
}

// A write with a fault is told also where there would be no room.
func TestWrongApplies(t *testing.T) {
	for _, items := range goodTables() {
		for _, x := range wrongWrites() {
			wantTableCode(t, "ApplyWrite, write wrong", impl.ApplyWrite(items, x.w), x.code)
		}
	}
}

func TestTooManyWrites(t *testing.T) {
	for _, n := range []int{201, 202, 1000} {
		wantTableCode(t, "TableOf, too many", impl.TableOf(slices.Repeat([]impl.Write{putOf(1, 1, 1, 1, 1, 1)}, n)), impl.ErrMany)
		wantTableCode(t, "TableOf, too many drops", impl.TableOf(slices.Repeat([]impl.Write{dropOf(1, 1, 1)}, n)), impl.ErrMany)
		wantTableCode(t, "TableOf, too many and wrong", impl.TableOf(make([]impl.Write, n)), impl.ErrMany)
	}
	wantTable(t, "TableOf 200", impl.TableOf(slices.Repeat([]impl.Write{putOf(7, 1, 1, 1, 2, 3)}, 200)), []impl.Item{itemOf(7, 1, 2, 3)})
	wantTable(t, "TableOf 200 drops", impl.TableOf(slices.Repeat([]impl.Write{dropOf(7, 1, 1)}, 200)), nil)
}

// One by one: of several writes with a fault the first one is told.
func TestWrongWritesOfTables(t *testing.T) {
	form, out := impl.Write{Kind: 3, Id: 1, Session: 1, Seq: 1}, putOf(1, 1, 1, 0, 0, 1001)
	for _, place := range []int{0, 1, 30, 31, 100, 199} {
		for _, x := range wrongWrites() {
			writes := fullWrites(200)
			writes[place] = x.w
			wantTableCode(t, "TableOf, one wrong", impl.TableOf(writes), x.code)
			wantTableCode(t, "TableOf, the last one wrong", impl.TableOf(writes[:place+1]), x.code)
		}
		for other := range place {
			writes := fullWrites(200)
			writes[other], writes[place] = form, out
			wantTableCode(t, "TableOf, two wrong", impl.TableOf(writes), impl.ErrForm)
			writes[other], writes[place] = out, form
			wantTableCode(t, "TableOf, two wrong", impl.TableOf(writes), impl.ErrRange)
		}
	}
}

// fullWrites are n puts of an Id each: more than there is room for.
func fullWrites(n int64) []impl.Write {
	var list []impl.Write
	for i := range n {
		list = append(list, putOf(1+i, 1+i%9, 1+i, i, 0, -i))
	}
	return list
}

func cloneItems(items []impl.Item) []impl.Item {
	var list []impl.Item
	for _, item := range items {
		list = append(list, impl.Item{Id: item.Id, Vec: slices.Clone(item.Vec)})
	}
	return list
}

// spareItems is a table with room behind it and behind each Vec, and all of that room, so that a write behind an end is seen too.
func spareItems(items []impl.Item) (list []impl.Item, room []impl.Item, vecs [][]int64) {
	for _, item := range items {
		vec, all := spareOf(item.Vec)
		room = append(room, impl.Item{Id: item.Id, Vec: vec})
		vecs = append(vecs, all)
	}
	for range 40 {
		room = append(room, itemOf(77, 7, 7, 7))
	}
	return room[:len(items)], room, vecs
}

func scribbleItems(items []impl.Item) {
	for i := range items {
		scribbleInts(items[i].Vec)
		items[i] = impl.Item{Id: 88}
	}
	_ = append(items, impl.Item{Id: 87}, impl.Item{Id: 86})
}

// askAll calls all functions with a table, and writes over all that they answer.
func askAll(items []impl.Item, id int64, vec []int64, k int64, w impl.Write) {
	impl.TableFault(items)
	impl.SameTables(items, items[:len(items)/2])
	scribbleItems(impl.PutItem(items, id, vec).Items)
	scribbleItems(impl.DropItem(items, id).Items)
	scribbleInts(impl.GetItem(items, id).List)
	scribble(impl.SearchTable(items, vec, k).Hits)
	scribbleItems(impl.ApplyWrite(items, w).Items)
}

// P1: no argument is changed, not even what lies behind it, nor by a change of the answer.
func TestTablesStay(t *testing.T) {
	tables := manyTables()
	for _, x := range wrongTables() {
		tables = append(tables, x.items)
	}
	for _, was := range tables {
		items, room, vecs := spareItems(was)
		wasRoom, wasVecs := cloneItems(room), [][]int64{}
		for _, all := range vecs {
			wasVecs = append(wasVecs, slices.Clone(all))
		}
		for _, id := range []int64{1, 5, 300, 999, 0, 1000} {
			for _, v := range [][]int64{{4, 5, 6}, {1, 2}, {0, 0, 1001}} {
				vec, all := spareOf(v)
				wasAll := slices.Clone(all)
				askAll(items, id, vec, id%21, impl.Write{Kind: 1, Id: id, Vec: vec, Session: 1, Seq: 1})
				askAll(items, id, vec, id-1, dropOf(id, 1, 1))
				if !slices.Equal(all, wasAll) {
					t.Fatalf("%v was changed to %v", wasAll, all)
				}
			}
		}
		if !alikeItems(room, wasRoom) || !slices.EqualFunc(vecs, wasVecs, slices.Equal[[]int64]) {
			t.Fatalf("%v was changed to %v", was, room)
		}
	}
}

// P1: so of writes.
func TestWritesOfTablesStay(t *testing.T) {
	wrong := fullWrites(40)
	wrong[35].Kind = 3
	for _, was := range [][]impl.Write{nil, fewWrites(), fullWrites(40), fullWrites(200), fullWrites(201), wrong} {
		var room []impl.Write
		var vecs, wasVecs [][]int64
		for _, w := range was {
			vec, all := spareOf(w.Vec)
			w.Vec = vec
			room = append(room, w)
			vecs, wasVecs = append(vecs, all), append(wasVecs, slices.Clone(all))
		}
		room = append(room, dropOf(77, 7, 7), dropOf(78, 7, 8))
		scribbleItems(impl.TableOf(room[:len(was)]).Items)
		if !slices.EqualFunc(room[:len(was)], was, alike) || !alike(room[len(was)], dropOf(77, 7, 7)) || !slices.EqualFunc(vecs, wasVecs, slices.Equal[[]int64]) {
			t.Fatalf("%v were changed to %v", was, room)
		}
	}
}

// tablesFrom are all answers with items: of a table and writes that are made anew, and what is called once the answers are there, to change all that was given.
func tablesFrom() (answers map[string][]impl.Item, spoil func()) {
	items, vec, w := fullTable(20, 1, 1), []int64{4, 5, 6}, putOf(50, 1, 1, 7, 8, 9)
	writes := fullWrites(40)
	answers = map[string][]impl.Item{
		"PutItem of a new one":             impl.PutItem(items, 40, vec).Items,
		"PutItem of one that is there":     impl.PutItem(items, 4, vec).Items,
		"DropItem":                         impl.DropItem(items, 4).Items,
		"DropItem of what is not there":    impl.DropItem(items, 400).Items,
		"ApplyWrite of a put":              impl.ApplyWrite(items, w).Items,
		"ApplyWrite of a drop":             impl.ApplyWrite(items, dropOf(4, 1, 1)).Items,
		"ApplyWrite without any change":    impl.ApplyWrite(items, dropOf(400, 1, 1)).Items,
		"ApplyWrite without room":          impl.ApplyWrite(fullTable(30, 1, 1), w).Items,
		"TableOf":                          impl.TableOf(writes).Items,
		"TableOf one":                      impl.TableOf([]impl.Write{w}).Items,
		"GetItem":                          {{Id: 4, Vec: impl.GetItem(items, 4).List}},
		"PutItem, the vec being an item's": impl.PutItem(items, 40, items[3].Vec).Items,
	}
	return answers, func() {
		scribbleItems(items)
		scribbleInts(vec)
		scribbleInts(w.Vec)
		for i := range writes {
			scribbleInts(writes[i].Vec)
			writes[i] = impl.Write{}
		}
	}
}

// P1: an answer stays as it is, whatever becomes of the arguments that it came from.
func TestTablesAreNotShared(t *testing.T) {
	want, _ := tablesFrom()
	got, spoil := tablesFrom()
	spoil()
	for what, items := range got {
		if len(items) == 0 || !alikeItems(items, want[what]) {
			t.Errorf("%s: %v became %v by a change of what was given", what, want[what], items)
		}
	}
}

// P1: no two lists of one answer share any memory, not even behind their ends.
func TestListsOfOneTableAreApart(t *testing.T) {
	want, _ := tablesFrom()
	for what := range want {
		for at := range want[what] {
			answers, _ := tablesFrom()
			items := answers[what]
			scribbleInts(items[at].Vec)
			items[at].Vec = want[what][at].Vec
			if !alikeItems(items, want[what]) {
				t.Fatalf("%s: %v became %v by a change at %d", what, want[what], items, at)
			}
		}
	}
}

// P1: the lists of an answer are apart also where those that were given were one.
func TestTablesOfOneVector(t *testing.T) {
	one := []int64{1, 2, 3}
	var items []impl.Item
	var writes []impl.Write
	for id := int64(1); id <= 10; id++ {
		items = append(items, impl.Item{Id: id, Vec: one})
		writes = append(writes, impl.Write{Kind: 1, Id: id, Vec: one, Session: 1, Seq: id})
	}
	for _, got := range [][]impl.Item{impl.PutItem(items, 5, one).Items, impl.DropItem(items, 50).Items, impl.ApplyWrite(items, writes[2]).Items, impl.TableOf(writes).Items} {
		if !alikeItems(got, items) {
			t.Fatalf("%v, want %v", got, items)
		}
		for i := range got {
			scribbleInts(got[i].Vec)
			for _, later := range got[i+1:] {
				if !slices.Equal(later.Vec, []int64{1, 2, 3}) {
					t.Fatalf("%v became %v by a change of another one", one, later)
				}
			}
		}
		if !slices.Equal(one, []int64{1, 2, 3}) {
			t.Fatalf("what was given became %v", one)
		}
	}
}

// P1: each answer is new memory, and the same whatever was called or changed ahead of it.
func TestTablesAreNew(t *testing.T) {
	want, _ := tablesFrom()
	first, _ := tablesFrom()
	kept, _ := tablesFrom()
	for _, items := range first {
		scribbleItems(items)
	}
	impl.TableOf(fullWrites(201))
	impl.PutItem(fullTable(30, 1, 1), 999, []int64{1, 2, 3})
	again, _ := tablesFrom()
	for what, items := range want {
		if !alikeItems(kept[what], items) || !alikeItems(again[what], items) {
			t.Errorf("%s: %v became %v and %v by a change of another answer", what, items, kept[what], again[what])
		}
	}
}

// P1: hits of a search are new, too.
func TestSearchesAreNew(t *testing.T) {
	items := fullTable(30, 1, 1)
	query := []int64{0, 0, 1000}
	first, kept := impl.SearchTable(items, query, 20), impl.SearchTable(items, query, 20)
	want := slices.Clone(kept.Hits)
	scribble(first.Hits)
	wantHits(t, "SearchTable", impl.SearchTable(items, query, 20), want)
	scribbleItems(items)
	scribbleInts(query)
	wantHits(t, "SearchTable, what was given being changed", kept, want)
}

// P1: calls at the same time keep nothing that another one could see (a run with -race tells of it as well).
func TestTablesBesideOneAnother(t *testing.T) {
	done := make(chan bool)
	shared := fullTable(29, 1, 2)
	writes := fullWrites(60)
	for worker := range int64(8) {
		go func() {
			right := true
			vec := []int64{worker, -worker, 1000}
			for range 200 {
				with := impl.PutItem(shared, 100+worker, vec).Items
				right = right && len(with) == 30 && slices.Equal(impl.GetItem(with, 100+worker).List, vec)
				right = right && impl.SameTables(impl.DropItem(with, 100+worker).Items, shared)
				right = right && len(impl.TableOf(writes).Items) == 30 && impl.SearchTable(with, vec, 1).Code == impl.OK
			}
			done <- right
		}()
	}
	for range 8 {
		if !<-done {
			t.Error("a call answered otherwise beside others")
		}
	}
}
