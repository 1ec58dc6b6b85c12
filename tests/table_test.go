package tests

import (
	"math/rand"
	"slices"
	"testing"

	"loop.example/g00357/impl"
)

func itemOf(id, a, b, c int64) impl.Item {
	return impl.Item{Id: id, Vec: []int64{a, b, c}}
}

func alikeItem(a, b impl.Item) bool {
	return a.Id == b.Id && slices.Equal(a.Vec, b.Vec)
}

func alikeItems(a, b []impl.Item) bool {
	return slices.EqualFunc(a, b, alikeItem)
}

func wantTable(t *testing.T, what string, got impl.TableResult, want []impl.Item) {
	t.Helper()
	if got.Code != impl.OK || !alikeItems(got.Items, want) {
		t.Fatalf("%s: %+v, want %v", what, got, want)
	}
}

// places are a table as a list with a place for each Id, not as the program has it.
type places [1000][]int64

func placesOf(items []impl.Item) *places {
	p := &places{}
	for _, item := range items {
		p[item.Id] = slices.Clone(item.Vec)
	}
	return p
}

func (p *places) items() []impl.Item {
	var list []impl.Item
	for id, vec := range p {
		if vec != nil {
			list = append(list, impl.Item{Id: int64(id), Vec: slices.Clone(vec)})
		}
	}
	return list
}

func (p *places) hasRoomFor(id int64) bool {
	return p[id] != nil || len(p.items()) < 30
}

func (p *places) apply(w impl.Write) {
	if w.Kind == 2 {
		p[w.Id] = nil
	} else if p.hasRoomFor(w.Id) {
		p[w.Id] = slices.Clone(w.Vec)
	}
}

// fullTable is a table of n items: each step-th Id from the first one on.
func fullTable(n, first, step int64) []impl.Item {
	var list []impl.Item
	for i := range n {
		list = append(list, itemOf(first+i*step, i, -i, 1000-i))
	}
	return list
}

// manyTables are of all sizes, at both bounds of the Ids, beside one another and apart; the same ones at each run.
func manyTables() [][]impl.Item {
	lists := [][]impl.Item{nil, {}, {itemOf(1, 0, 0, 0)}, {itemOf(999, -1000, 1000, -1000)}, {itemOf(1, 1000, 1000, 1000), itemOf(999, 1000, 1000, 1000)}}
	for n := int64(1); n <= 30; n++ {
		lists = append(lists, fullTable(n, 1, 1), fullTable(n, 1000-n, 1), fullTable(n, 5, 7))
	}
	from := rand.New(rand.NewSource(5))
	for _, n := range []int{2, 5, 15, 28, 29, 30, 30, 30} {
		var p places
		for _, at := range from.Perm(999)[:n] {
			p[at+1] = []int64{from.Int63n(2001) - 1000, from.Int63n(2001) - 1000, from.Int63n(2001) - 1000}
		}
		lists = append(lists, p.items())
	}
	return lists
}

// idsBeside are Ids that are in the table, the ones beside them, and both bounds.
func idsBeside(items []impl.Item) []int64 {
	ids := []int64{1, 2, 500, 998, 999}
	for _, item := range items {
		ids = append(ids, max(item.Id-1, 1), item.Id, min(item.Id+1, 999))
	}
	slices.Sort(ids)
	return slices.Compact(ids)
}

func TestTableBounds(t *testing.T) {
	if impl.MaxItems != 30 {
		t.Error(impl.MaxItems)
	}
	for _, items := range manyTables() {
		if code := impl.TableFault(items); code != impl.OK {
			t.Errorf("TableFault(%v) = %d", items, code)
		}
	}
}

func TestTableOfExamples(t *testing.T) {
	two, five := itemOf(2, 1, 2, 3), itemOf(5, -1, 0, 1)
	items := []impl.Item{two, five}
	wantTable(t, "put ahead", impl.PutItem(items, 1, []int64{7, 8, 9}), []impl.Item{itemOf(1, 7, 8, 9), two, five})
	wantTable(t, "put between", impl.PutItem(items, 3, []int64{7, 8, 9}), []impl.Item{two, itemOf(3, 7, 8, 9), five})
	wantTable(t, "put behind", impl.PutItem(items, 999, []int64{7, 8, 9}), []impl.Item{two, five, itemOf(999, 7, 8, 9)})
	wantTable(t, "put in the place of one", impl.PutItem(items, 2, []int64{7, 8, 9}), []impl.Item{itemOf(2, 7, 8, 9), five})
	wantTable(t, "put the same", impl.PutItem(items, 5, []int64{-1, 0, 1}), items)
	wantTable(t, "put to none", impl.PutItem(nil, 4, []int64{0, 0, 0}), []impl.Item{itemOf(4, 0, 0, 0)})
	wantTable(t, "drop the first", impl.DropItem(items, 2), []impl.Item{five})
	wantTable(t, "drop the last", impl.DropItem(items, 5), []impl.Item{two})
	wantTable(t, "drop what is not there", impl.DropItem(items, 3), items)
	wantTable(t, "drop the only one", impl.DropItem([]impl.Item{two}, 2), nil)
	wantTable(t, "drop of none", impl.DropItem(nil, 2), nil)
	wantList(t, "get", impl.GetItem(items, 2), []int64{1, 2, 3})
	wantList(t, "get", impl.GetItem(items, 5), []int64{-1, 0, 1})
	wantListCode(t, "get what is not there", impl.GetItem(items, 3), impl.ErrNone)
	wantListCode(t, "get of none", impl.GetItem(nil, 2), impl.ErrNone)
}

// A vector of zeros is there, too.
func TestZeroVectorIsThere(t *testing.T) {
	items := impl.PutItem(nil, 8, []int64{0, 0, 0}).Items
	wantList(t, "GetItem", impl.GetItem(items, 8), []int64{0, 0, 0})
	wantListCode(t, "GetItem", impl.GetItem(impl.DropItem(items, 8).Items, 8), impl.ErrNone)
	wantHits(t, "SearchTable", impl.SearchTable(items, []int64{0, 0, 0}, 1), []impl.Hit{{Id: 8}})
}

func TestGetOfAllIds(t *testing.T) {
	for _, items := range manyTables() {
		p := placesOf(items)
		for id := int64(1); id <= 999; id++ {
			if p[id] == nil {
				wantListCode(t, "GetItem", impl.GetItem(items, id), impl.ErrNone)
			} else {
				wantList(t, "GetItem", impl.GetItem(items, id), p[id])
			}
		}
	}
}

// wantOthers asks that all but id are as they were.
func wantOthers(t *testing.T, was, items []impl.Item, id int64) {
	t.Helper()
	isOf := func(item impl.Item) bool { return item.Id == id }
	if !alikeItems(slices.DeleteFunc(slices.Clone(was), isOf), slices.DeleteFunc(slices.Clone(items), isOf)) {
		t.Fatalf("the others than %d did not stay: %v became %v", id, was, items)
	}
	for _, item := range was {
		if item.Id != id {
			wantList(t, "GetItem of another one", impl.GetItem(items, item.Id), item.Vec)
		}
	}
}

// P5: what is put is got, and all others stay.
func TestWhatIsPutIsGot(t *testing.T) {
	for _, items := range manyTables() {
		for i, id := range idsBeside(items) {
			vec := edgeVecs()[i*7%729]
			p := placesOf(items)
			if !p.hasRoomFor(id) {
				continue
			}
			got := impl.PutItem(items, id, vec)
			if got.Code != impl.OK || impl.TableFault(got.Items) != impl.OK {
				t.Fatalf("PutItem(%v, %d, %v) = %+v", items, id, vec, got)
			}
			wantList(t, "GetItem of what was put", impl.GetItem(got.Items, id), vec)
			wantOthers(t, items, got.Items, id)
			p[id] = vec
			wantTable(t, "PutItem", got, p.items())
			wantTable(t, "PutItem again", impl.PutItem(got.Items, id, vec), got.Items)
		}
	}
}

// P5: what is dropped is gone, and all others stay.
func TestWhatIsDroppedIsGone(t *testing.T) {
	for _, items := range manyTables() {
		for _, id := range idsBeside(items) {
			got := impl.DropItem(items, id)
			if got.Code != impl.OK || impl.TableFault(got.Items) != impl.OK {
				t.Fatalf("DropItem(%v, %d) = %+v", items, id, got)
			}
			wantListCode(t, "GetItem of what was dropped", impl.GetItem(got.Items, id), impl.ErrNone)
			wantOthers(t, items, got.Items, id)
			p := placesOf(items)
			wasThere := p[id] != nil
			p[id] = nil
			wantTable(t, "DropItem", got, p.items())
			wantTable(t, "DropItem again", impl.DropItem(got.Items, id), got.Items)
			if !wasThere {
				wantTable(t, "DropItem of what is not there", got, items)
			}
		}
	}
}

// In a full table there is room for an Id that is there, and behind a drop for one more.
func TestFullTables(t *testing.T) {
	vec := []int64{4, 5, 6}
	for _, items := range [][]impl.Item{fullTable(30, 1, 1), fullTable(30, 970, 1), fullTable(30, 2, 3)} {
		p := placesOf(items)
		for id := int64(1); id <= 999; id++ {
			got := impl.PutItem(items, id, vec)
			if p[id] == nil {
				wantTableCode(t, "PutItem to a full table", got, impl.ErrMany)
				continue
			}
			with := placesOf(items)
			with[id] = vec
			wantTable(t, "PutItem in the place of one", got, with.items())
		}
		fewer := impl.DropItem(items, items[9].Id).Items
		again := impl.PutItem(fewer, items[9].Id, items[9].Vec)
		wantTable(t, "PutItem of what was dropped", again, items)
		wantTable(t, "PutItem of another one", impl.PutItem(fewer, 400, vec), placesWith(fewer, 400, vec))
		wantTableCode(t, "PutItem of one more", impl.PutItem(again.Items, 400, vec), impl.ErrMany)
	}
	wantTable(t, "PutItem of the last one", impl.PutItem(fullTable(29, 1, 1), 999, vec), append(fullTable(29, 1, 1), itemOf(999, 4, 5, 6)))
}

func placesWith(items []impl.Item, id int64, vec []int64) []impl.Item {
	p := placesOf(items)
	p[id] = vec
	return p.items()
}

func TestSearchOfExamples(t *testing.T) {
	items := []impl.Item{itemOf(2, 0, 0, 0), itemOf(3, 3, 0, 0), itemOf(7, 0, 0, -1), itemOf(9, 1, 2, 3)}
	all := []impl.Hit{{Id: 2, Score: 0}, {Id: 7, Score: 1}, {Id: 3, Score: 9}, {Id: 9, Score: 14}}
	for k := range int64(21) {
		wantHits(t, "SearchTable", impl.SearchTable(items, []int64{0, 0, 0}, k), all[:min(k, 4)])
		wantHits(t, "SearchTable of none", impl.SearchTable(nil, []int64{0, 0, 0}, k), nil)
	}
	far := []impl.Item{itemOf(999, 1000, 1000, 1000)}
	wantHits(t, "SearchTable from far", impl.SearchTable(far, []int64{-1000, -1000, -1000}, 20), []impl.Hit{{Id: 999, Score: 12000000}})
}

// distance is told by the parts, not by ScoreOf.
func distance(a, b []int64) int64 {
	x, y, z := a[0]-b[0], a[1]-b[1], a[2]-b[2]
	return x*x + y*y + z*z
}

// Items that are equally near are told by their Ids, also where the table holds them far apart.
func TestSearchOfEquallyNear(t *testing.T) {
	around := [][]int64{{10, 0, 0}, {0, -10, 0}, {0, 0, 10}, {-10, 0, 0}, {0, 6, 8}, {-8, 0, 6}}
	var ring, same, two []impl.Item
	for i := range int64(30) {
		v := around[i%6]
		ring = append(ring, itemOf(1+i*33, v[0], v[1], v[2]))
		same = append(same, itemOf(970+i, 5, 5, 5))
		two = append(two, itemOf(3+i*2, 20-10*(i%2), 0, 0))
	}
	for k := range int64(21) {
		var ofRing, ofSame, ofTwo []impl.Hit
		for i := range k {
			ofRing = append(ofRing, impl.Hit{Id: 1 + i*33, Score: 100})
			ofSame = append(ofSame, impl.Hit{Id: 970 + i, Score: 75})
			if i < 15 {
				ofTwo = append(ofTwo, impl.Hit{Id: 5 + i*4, Score: 100})
			} else {
				ofTwo = append(ofTwo, impl.Hit{Id: 3 + (i-15)*4, Score: 400})
			}
		}
		wantHits(t, "SearchTable of a ring", impl.SearchTable(ring, []int64{0, 0, 0}, k), ofRing)
		wantHits(t, "SearchTable of one point", impl.SearchTable(same, []int64{0, 0, 0}, k), ofSame)
		wantHits(t, "SearchTable of two points", impl.SearchTable(two, []int64{0, 0, 0}, k), ofTwo)
	}
	between := []impl.Item{itemOf(4, -1, 0, 0), itemOf(8, 1, 0, 0)}
	for _, query := range [][]int64{{0, 0, 0}, {0, 7, -7}, {0, 1000, 1000}} {
		if got := impl.SearchTable(between, query, 1); len(got.Hits) != 1 || got.Hits[0].Id != 4 {
			t.Errorf("SearchTable of %v between two: %+v", query, got)
		}
	}
}

// P5: no item that is left out by a search is nearer than one that is told; what is told is there, as far away as it is.
func checkSearch(t *testing.T, items []impl.Item, query []int64, k int64) {
	t.Helper()
	got := impl.SearchTable(items, query, k)
	if got.Code != impl.OK || impl.HitsFault(got.Hits) != impl.OK || len(got.Hits) != min(int(k), len(items)) {
		t.Fatalf("SearchTable(%v, %v, %d) = %+v", items, query, k, got)
	}
	var all []impl.Hit
	told := map[int64]bool{}
	for _, h := range got.Hits {
		told[h.Id] = true
	}
	for _, item := range items {
		h := impl.Hit{Id: item.Id, Score: distance(query, item.Vec)}
		all = append(all, h)
		for _, other := range got.Hits {
			if !told[h.Id] && (h.Score < other.Score || h.Score == other.Score && h.Id < other.Id) {
				t.Fatalf("SearchTable(%v, %v, %d) = %v: %v is left out", items, query, k, got.Hits, h)
			}
		}
	}
	wantHits(t, "SearchTable", got, bestHits(all, k))
}

func TestNoneLeftOutIsNearer(t *testing.T) {
	queries := append(someVecs(12), []int64{0, 0, 0}, []int64{1000, 1000, 1000}, []int64{-1000, -1000, -1000}, []int64{5, -5, 995})
	for _, items := range manyTables() {
		for _, query := range queries {
			for _, k := range []int64{0, 1, 2, 5, 19, 20} {
				checkSearch(t, items, query, k)
			}
		}
	}
	for _, items := range manyTables()[60:] {
		for k := range int64(21) {
			for _, item := range items {
				checkSearch(t, items, item.Vec, k)
			}
		}
	}
}

// Of few points in a little room many are equally near, wherever the query is.
func TestSearchInALittleRoom(t *testing.T) {
	from := rand.New(rand.NewSource(6))
	for range 60 {
		var p places
		for _, at := range from.Perm(999)[:30] {
			p[at+1] = []int64{from.Int63n(3) - 1, from.Int63n(3) - 1, from.Int63n(2)}
		}
		items := p.items()
		for _, query := range [][]int64{{0, 0, 0}, {1, 0, 0}, {-1, 1, 1}, {500, 0, 0}} {
			for k := range int64(21) {
				checkSearch(t, items, query, k)
			}
		}
	}
}

// A search hangs on what is there, not on how it came there.
func TestSearchOfWhateverOrder(t *testing.T) {
	items := manyTables()[len(manyTables())-1]
	from := rand.New(rand.NewSource(7))
	want := impl.SearchTable(items, []int64{1, 2, 3}, 20)
	for range 50 {
		var turned []impl.Item
		for _, at := range from.Perm(len(items)) {
			turned = impl.PutItem(turned, items[at].Id, items[at].Vec).Items
		}
		wantTable(t, "PutItem in another order", impl.TableResult{Items: turned}, items)
		wantHits(t, "SearchTable", impl.SearchTable(turned, []int64{1, 2, 3}, 20), want.Hits)
	}
}

// A write is a put or a drop of a table, whoever asked for it.
func TestApplyWriteIsPutOrDrop(t *testing.T) {
	for _, items := range manyTables() {
		for i, id := range idsBeside(items) {
			v := edgeVecs()[i*11%729]
			session, seq := int64(i%9+1), int64(i*37%999+1)
			put := impl.ApplyWrite(items, putOf(id, session, seq, v[0], v[1], v[2]))
			if placesOf(items).hasRoomFor(id) {
				wantTable(t, "ApplyWrite of a put", put, placesWith(items, id, v))
				wantTable(t, "ApplyWrite as PutItem", put, impl.PutItem(items, id, v).Items)
			} else {
				wantTable(t, "ApplyWrite of a put without room", put, items)
			}
			drop := impl.ApplyWrite(items, dropOf(id, session, seq))
			wantTable(t, "ApplyWrite of a drop", drop, placesWith(items, id, nil))
			wantTable(t, "ApplyWrite as DropItem", drop, impl.DropItem(items, id).Items)
		}
	}
}

// Where there is no room nothing changes, and that is no fault.
func TestApplyWriteWithoutRoom(t *testing.T) {
	full := fullTable(30, 10, 10)
	for id := int64(1); id <= 999; id++ {
		got := impl.ApplyWrite(full, putOf(id, 1, 1, 9, 9, 9))
		if id%10 == 0 && id >= 10 && id <= 300 {
			wantTable(t, "ApplyWrite in the place of one", got, placesWith(full, id, []int64{9, 9, 9}))
		} else {
			wantTable(t, "ApplyWrite without room", got, full)
			wantTable(t, "ApplyWrite of a drop", impl.ApplyWrite(full, dropOf(id, 1, 1)), full)
		}
	}
}

func TestTableOfWritesOfExamples(t *testing.T) {
	wantTable(t, "TableOf nil", impl.TableOf(nil), nil)
	wantTable(t, "TableOf none", impl.TableOf([]impl.Write{}), nil)
	wantTable(t, "a drop alone", impl.TableOf([]impl.Write{dropOf(4, 1, 1)}), nil)
	wantTable(t, "a put alone", impl.TableOf([]impl.Write{putOf(4, 1, 1, 7, 8, 9)}), []impl.Item{itemOf(4, 7, 8, 9)})
	wantTable(t, "a put and a drop", impl.TableOf([]impl.Write{putOf(4, 1, 1, 7, 8, 9), dropOf(4, 1, 2)}), nil)
	wantTable(t, "a drop and a put", impl.TableOf([]impl.Write{dropOf(4, 1, 1), putOf(4, 1, 2, 7, 8, 9)}), []impl.Item{itemOf(4, 7, 8, 9)})
	wantTable(t, "the last put of one Id", impl.TableOf([]impl.Write{putOf(4, 2, 5, 7, 8, 9), putOf(2, 1, 1, 0, 0, 1), putOf(4, 1, 2, 1, 1, 1)}), []impl.Item{itemOf(2, 0, 0, 1), itemOf(4, 1, 1, 1)})
	again := putOf(3, 1, 1, 5, 5, 5)
	wantTable(t, "one write twice", impl.TableOf([]impl.Write{again, dropOf(3, 1, 2), again}), []impl.Item{itemOf(3, 5, 5, 5)})
}

// A put that finds no room is gone, also if there is room later.
func TestTableOfWritesThatFindNoRoom(t *testing.T) {
	var writes []impl.Write
	var first []impl.Item
	for i := range int64(30) {
		writes = append(writes, putOf(100+i, 1, i+1, i, 0, 0))
		first = append(first, itemOf(100+i, i, 0, 0))
	}
	writes = append(writes, putOf(50, 2, 1, 1, 1, 1), putOf(999, 2, 2, 2, 2, 2))
	wantTable(t, "two more than there is room for", impl.TableOf(writes), first)
	writes = append(writes, dropOf(100, 2, 3))
	wantTable(t, "one of them dropped", impl.TableOf(writes), first[1:])
	writes = append(writes, putOf(999, 2, 4, 3, 3, 3), putOf(998, 2, 5, 4, 4, 4), putOf(101, 2, 6, 5, 5, 5))
	want := placesOf(first[1:])
	want[999], want[101] = []int64{3, 3, 3}, []int64{5, 5, 5}
	wantTable(t, "and then again", impl.TableOf(writes), want.items())
}

// someWrites are n writes of few Ids or many, mostly puts; the same ones at each run.
func someWrites(from *rand.Rand, n int, ids int64) []impl.Write {
	list := make([]impl.Write, n)
	for i := range list {
		id, session, seq := 1+from.Int63n(ids), 1+from.Int63n(9), 1+from.Int63n(999)
		list[i] = putOf(id, session, seq, from.Int63n(2001)-1000, from.Int63n(2001)-1000, from.Int63n(2001)-1000)
		if from.Intn(4) == 0 {
			list[i] = dropOf(id, session, seq)
		}
	}
	return list
}

// P5: the table of writes is that of the first ones, with the others applied.
func TestTableOfFirstWrites(t *testing.T) {
	from := rand.New(rand.NewSource(8))
	for _, ids := range []int64{1, 3, 30, 31, 45, 999} {
		for range 4 {
			writes := someWrites(from, 200, ids)
			var p places
			items := impl.TableOf(nil).Items
			for i, w := range writes {
				wantTable(t, "TableOf the first ones", impl.TableOf(writes[:i]), items)
				p.apply(w)
				items = impl.ApplyWrite(items, w).Items
				wantTable(t, "TableOf as it should be", impl.TableOf(writes[:i+1]), p.items())
			}
			wantTable(t, "TableOf all", impl.TableOf(writes), items)
			for _, cut := range []int{0, 1, 29, 30, 31, 100, 199} {
				rest := impl.TableOf(writes[:cut]).Items
				for _, w := range writes[cut:] {
					rest = impl.ApplyWrite(rest, w).Items
				}
				wantTable(t, "TableOf the first ones, with the others applied", impl.TableOf(writes), rest)
			}
		}
	}
}

// P5: the same of all short stories of a few writes.
func TestTableOfAllShortStories(t *testing.T) {
	steps := []impl.Write{putOf(1, 1, 1, 1, 0, 0), putOf(1, 1, 2, 2, 0, 0), dropOf(1, 1, 3), putOf(2, 2, 1, 3, 0, 0), dropOf(2, 2, 2)}
	stories := [][]impl.Write{nil}
	for from := 0; from < len(stories); from++ {
		story := stories[from]
		var p places
		for _, w := range story {
			p.apply(w)
		}
		wantTable(t, "TableOf", impl.TableOf(story), p.items())
		if len(story) < 5 {
			for _, w := range steps {
				stories = append(stories, append(slices.Clone(story), w))
			}
		}
	}
}

// No order in which a map is gone through is to be seen: each call answers the same.
func TestTablesAnswerAgain(t *testing.T) {
	from := rand.New(rand.NewSource(9))
	writes := someWrites(from, 200, 60)
	want := impl.TableOf(writes).Items
	for range 200 {
		wantTable(t, "TableOf again", impl.TableOf(writes), want)
		wantTable(t, "PutItem again", impl.PutItem(want, want[3].Id, want[3].Vec), want)
		wantTable(t, "DropItem again", impl.DropItem(want, 999), want)
	}
}

// otherItems are all that differ from one item in one thing alone, with and without a fault.
func otherItems(item impl.Item) []impl.Item {
	var list []impl.Item
	for _, step := range []int64{1, -1, 1000, 1 << 40} {
		list = append(list, impl.Item{Id: item.Id + step, Vec: item.Vec})
		for place := range item.Vec {
			vec := slices.Clone(item.Vec)
			vec[place] += step
			list = append(list, impl.Item{Id: item.Id, Vec: vec})
		}
	}
	list = append(list, impl.Item{Id: item.Id, Vec: append(slices.Clone(item.Vec), 0)})
	if len(item.Vec) > 0 {
		list = append(list, impl.Item{Id: item.Id}, impl.Item{Id: item.Id, Vec: item.Vec[1:]})
	}
	return list
}

func TestSameTablesOfOne(t *testing.T) {
	for _, item := range []impl.Item{itemOf(2, 1, -1, 0), itemOf(999, 0, 0, 0), {}, {Id: -5, Vec: []int64{1, 2}}, {Id: 1000, Vec: []int64{5000, 0, 0}}} {
		same := impl.Item{Id: item.Id, Vec: slices.Clone(item.Vec)}
		if !impl.SameTables([]impl.Item{item}, []impl.Item{same}) {
			t.Errorf("%+v is not the same as itself", item)
		}
		for _, other := range otherItems(item) {
			if impl.SameTables([]impl.Item{item}, []impl.Item{other}) || impl.SameTables([]impl.Item{other}, []impl.Item{item}) {
				t.Errorf("%+v is the same as %+v", item, other)
			}
		}
	}
}

// An empty list and nil are the same, as items and as a Vec.
func TestSameTablesOfNone(t *testing.T) {
	empty := impl.Item{Id: 4, Vec: []int64{}}
	for _, x := range []struct {
		a, b []impl.Item
		want bool
	}{
		{nil, nil, true},
		{nil, []impl.Item{}, true},
		{[]impl.Item{}, nil, true},
		{[]impl.Item{empty}, []impl.Item{{Id: 4}}, true},
		{nil, []impl.Item{{}}, false},
		{[]impl.Item{{}}, nil, false},
	} {
		if got := impl.SameTables(x.a, x.b); got != x.want {
			t.Errorf("SameTables(%+v, %+v) = %v", x.a, x.b, got)
		}
	}
}

// All is the same: how many there are, and their order, and each of them; also of more items than a table may have.
func TestSameTablesOfMany(t *testing.T) {
	for _, list := range append(manyTables(), fullTable(60, 1, 2)) {
		if !impl.SameTables(list, placesOf(list).items()) || !impl.SameTables(list, list) {
			t.Errorf("%v is not the same as itself", list)
		}
		for at := range list {
			if impl.SameTables(list, list[:at]) || impl.SameTables(list[at+1:], list) {
				t.Fatalf("a part of %v is the same as all", list)
			}
			other := slices.Clone(list)
			other[at] = itemOf(list[at].Id, 3, 2, 1)
			if impl.SameTables(list, other) || impl.SameTables(other, list) {
				t.Fatalf("another one at %d of %v is not seen", at, list)
			}
			if at > 0 {
				other = slices.Clone(list)
				other[at-1], other[at] = other[at], other[at-1]
				if impl.SameTables(list, other) {
					t.Fatalf("two that are turned at %d of %v are not seen", at, list)
				}
			}
		}
	}
}
