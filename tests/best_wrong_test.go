package tests

import (
	"math"
	"slices"
	"testing"

	"loop.example/g00357/impl"
)

// wrongHitsOut are hits that leave their bounds.
func wrongHitsOut() []impl.Hit {
	var list []impl.Hit
	for _, id := range []int64{0, -1, 1000, math.MinInt64, math.MaxInt64} {
		list = append(list, impl.Hit{Id: id, Score: 5})
	}
	for _, score := range []int64{-1, impl.MaxScore + 1, math.MinInt64, math.MaxInt64} {
		list = append(list, impl.Hit{Id: 5, Score: score})
	}
	return append(list, impl.Hit{Id: 0, Score: -1}, impl.Hit{Id: 1000, Score: impl.MaxScore + 1})
}

func wrongCounts() []int64 {
	return []int64{-1, 21, -20, 1 << 32, math.MinInt64, math.MaxInt64}
}

// wrongList is no list of hits, and has the code that is named first of it.
type wrongList struct {
	hits []impl.Hit
	code int64
}

func wrongLists() []wrongList {
	good := fullHits(20, 4)
	lists := []wrongList{
		{fullHits(21, 4), impl.ErrMany},
		{fullHits(300, 4), impl.ErrMany},
		{make([]impl.Hit, 21), impl.ErrMany},
		{append(slices.Clone(good), impl.Hit{Id: 0, Score: -1}), impl.ErrMany},
		{slices.Repeat(good[:1], 21), impl.ErrMany},
		{[]impl.Hit{{Id: 1, Score: 5}, {Id: 1, Score: 5}}, impl.ErrForm},
		{[]impl.Hit{{Id: 2, Score: 5}, {Id: 1, Score: 5}}, impl.ErrForm},
		{[]impl.Hit{{Id: 1, Score: 6}, {Id: 1, Score: 5}}, impl.ErrForm},
		{[]impl.Hit{{Id: 1, Score: 6}, {Id: 9, Score: 5}}, impl.ErrForm},
		{[]impl.Hit{{Id: 1, Score: 1}, {Id: 2, Score: 1}, {Id: 1, Score: 1}}, impl.ErrForm},
		{[]impl.Hit{good[0], good[1], good[1], {Id: 0, Score: 99}}, impl.ErrForm},
		{[]impl.Hit{good[0], good[1], {Id: 0, Score: 99}, good[2], good[2]}, impl.ErrRange},
		{[]impl.Hit{good[3], {Id: 1, Score: -1}}, impl.ErrRange},
		{[]impl.Hit{good[3], {Id: 0, Score: 0}, good[2]}, impl.ErrRange},
	}
	for place := range len(good) {
		for _, h := range wrongHitsOut() {
			out := slices.Clone(good)
			out[place] = h
			lists = append(lists, wrongList{out, impl.ErrRange}, wrongList{out[:place+1], impl.ErrRange})
		}
		if place > 0 {
			turned := slices.Clone(good)
			turned[place-1], turned[place] = turned[place], turned[place-1]
			alike := slices.Clone(good)
			alike[place] = alike[place-1]
			lists = append(lists, wrongList{turned, impl.ErrForm}, wrongList{alike, impl.ErrForm})
		}
	}
	return lists
}

func wantHitsCode(t *testing.T, what string, got impl.HitsResult, code int64) {
	t.Helper()
	if got.Code != code || len(got.Hits) != 0 {
		t.Errorf("%s: %+v, want the code %d alone", what, got, code)
	}
}

func TestWrongLists(t *testing.T) {
	for _, x := range wrongLists() {
		if code := impl.HitsFault(x.hits); code != x.code {
			t.Errorf("HitsFault(%v) = %d, want %d", x.hits, code, x.code)
		}
	}
}

// k is asked first, whatever else is wrong.
func TestWrongCounts(t *testing.T) {
	good := []impl.Hit{{Id: 1, Score: 5}, {Id: 3, Score: 5}}
	for _, k := range wrongCounts() {
		for _, list := range [][]impl.Hit{nil, good, make([]impl.Hit, 201), {good[1], good[0]}, {{}}} {
			wantHitsCode(t, "BestOf, k wrong", impl.BestOf(list, k), impl.ErrRange)
			for _, h := range []impl.Hit{{Id: 2, Score: 2}, {}} {
				wantHitsCode(t, "AddHit, k wrong", impl.AddHit(list, h, k), impl.ErrRange)
			}
			wantHitsCode(t, "MergeHits, k wrong", impl.MergeHits(list, good, k), impl.ErrRange)
			wantHitsCode(t, "MergeHits, k wrong", impl.MergeHits(good, list, k), impl.ErrRange)
		}
	}
}

func TestWrongHitsOfBest(t *testing.T) {
	for _, k := range []int64{0, 1, 20} {
		for _, n := range []int64{201, 202, 400, 5000} {
			wantHitsCode(t, "BestOf, too many", impl.BestOf(fullHits(n, 0), k), impl.ErrMany)
			wantHitsCode(t, "BestOf, too many alike", impl.BestOf(slices.Repeat([]impl.Hit{{Id: 1}}, int(n)), k), impl.ErrMany)
			wantHitsCode(t, "BestOf, too many and wrong", impl.BestOf(make([]impl.Hit, n), k), impl.ErrMany)
		}
		for _, h := range wrongHitsOut() {
			wantHitsCode(t, "BestOf, one wrong", impl.BestOf([]impl.Hit{h}, k), impl.ErrRange)
			for _, place := range []int{0, 1, 20, 100, 199} {
				list := fullHits(200, 0)
				list[place] = h
				wantHitsCode(t, "BestOf, one of many wrong", impl.BestOf(list, k), impl.ErrRange)
			}
		}
	}
}

// The list is asked ahead of h, also where nothing is wanted.
func TestWrongAdds(t *testing.T) {
	good := impl.Hit{Id: 1, Score: 5}
	for _, k := range []int64{0, 1, 20} {
		for _, x := range wrongLists() {
			wantHitsCode(t, "AddHit, list wrong", impl.AddHit(x.hits, good, k), x.code)
			wantHitsCode(t, "AddHit, both wrong", impl.AddHit(x.hits, impl.Hit{}, k), x.code)
		}
		for _, h := range wrongHitsOut() {
			for _, list := range [][]impl.Hit{nil, {good}, fullHits(20, 0)} {
				wantHitsCode(t, "AddHit, h wrong", impl.AddHit(list, h, k), impl.ErrRange)
			}
		}
	}
}

// All codes of a stand ahead of those of b.
func TestWrongMerges(t *testing.T) {
	good := fullHits(5, 3)
	for _, k := range []int64{0, 1, 20} {
		for _, x := range wrongLists() {
			wantHitsCode(t, "MergeHits, a wrong", impl.MergeHits(x.hits, good, k), x.code)
			wantHitsCode(t, "MergeHits, b wrong", impl.MergeHits(good, x.hits, k), x.code)
			for _, y := range wrongLists()[:12] {
				wantHitsCode(t, "MergeHits, both wrong", impl.MergeHits(x.hits, y.hits, k), x.code)
			}
		}
	}
}

func TestWrongRanks(t *testing.T) {
	list := fullHits(20, 4)
	for _, id := range []int64{0, -1, 3, 999, 1000, math.MinInt64, math.MaxInt64} {
		wantIntCode(t, "RankOf, no such id", impl.RankOf(list, id), impl.ErrNone)
		wantIntCode(t, "RankOf, no hits", impl.RankOf(nil, id), impl.ErrNone)
	}
	for _, x := range wrongLists() {
		for _, id := range []int64{1, 2, 0, 5, 700} {
			wantIntCode(t, "RankOf, list wrong", impl.RankOf(x.hits, id), x.code)
		}
	}
}

// spareHits is a list with room behind it, and all of that room, so that a write behind its end is seen too.
func spareHits(list []impl.Hit) (hits []impl.Hit, room []impl.Hit) {
	room = append(slices.Clone(list), slices.Repeat([]impl.Hit{{Id: 77, Score: 7}}, 30)...)
	return room[:len(list)], room
}

func scribble(hits []impl.Hit) {
	for i := range hits {
		hits[i] = impl.Hit{Id: 88, Score: 8}
	}
	_ = append(hits, impl.Hit{Id: 89}, impl.Hit{Id: 90}, impl.Hit{Id: 91})
}

// P1: no argument is changed, not even what lies behind it, nor by a change of the answer.
func TestHitsStay(t *testing.T) {
	lists := [][]impl.Hit{nil, {{Id: 5, Score: 5}}, fullHits(3, 0), fullHits(20, 0), fullHits(20, 7), fullHits(21, 0), {{Id: 2}, {Id: 1}}, {{Id: 3, Score: 9}, {Id: 0}, {Id: 3, Score: 9}}}
	for _, x := range lists {
		for _, y := range lists {
			a, roomA := spareHits(x)
			b, roomB := spareHits(y)
			wasA, wasB := slices.Clone(roomA), slices.Clone(roomB)
			impl.HitsFault(a)
			impl.RankOf(a, 2)
			for _, k := range []int64{-1, 0, 1, 2, 3, 19, 20, 21} {
				scribble(impl.BestOf(a, k).Hits)
				scribble(impl.MergeHits(a, b, k).Hits)
				for _, h := range []impl.Hit{{Id: 1}, {Id: 5, Score: 5}, {Id: 999, Score: impl.MaxScore}, {}} {
					scribble(impl.AddHit(a, h, k).Hits)
				}
			}
			if !slices.Equal(roomA, wasA) || !slices.Equal(roomB, wasB) {
				t.Fatalf("%v and %v were changed to %v and %v", wasA, wasB, roomA, roomB)
			}
		}
	}
}

// P1: one list may be both arguments, or the beginning of the other one.
func TestOneListOfHitsTwice(t *testing.T) {
	list := fullHits(20, 3)
	wantHits(t, "MergeHits of one", impl.MergeHits(list, list, 20), fullHits(20, 3))
	wantHits(t, "MergeHits of two pieces of one", impl.MergeHits(list[:4], list[2:9], 20), fullHits(9, 3))
	wantHits(t, "MergeHits of the last and the first", impl.MergeHits(list[15:], list[:5], 8), slices.Concat(fullHits(5, 3), fullHits(20, 3)[15:18]))
}

// P1: each answer is new memory, and the same whatever was called or changed ahead of it.
func TestHitsAreNew(t *testing.T) {
	list := fullHits(20, 6)
	for _, ask := range []func() []impl.Hit{
		func() []impl.Hit { return impl.BestOf(list, 20).Hits },
		func() []impl.Hit { return impl.BestOf(slices.Repeat(list, 10), 20).Hits },
		func() []impl.Hit { return impl.AddHit(list, list[4], 20).Hits },
		func() []impl.Hit { return impl.AddHit(list, impl.Hit{Id: 1, Score: 900}, 20).Hits },
		func() []impl.Hit { return impl.AddHit(list[1:], list[0], 20).Hits },
		func() []impl.Hit { return impl.MergeHits(list, nil, 20).Hits },
		func() []impl.Hit { return impl.MergeHits(nil, list, 20).Hits },
		func() []impl.Hit { return impl.MergeHits(list[:9], list[9:], 20).Hits },
	} {
		first := ask()
		kept := ask()
		scribble(first)
		impl.BestOf(nil, 3)
		impl.MergeHits(fullHits(21, 0), nil, 2)
		for _, hits := range [][]impl.Hit{kept, ask(), list} {
			if !slices.Equal(hits, fullHits(20, 6)) {
				t.Fatalf("an answer became %v by a change of another one", hits)
			}
		}
	}
}

// P1: calls at the same time keep nothing that another one could see (a run with -race tells of it as well).
func TestBestBesideOneAnother(t *testing.T) {
	done := make(chan bool)
	shared := fullHits(20, 100)
	for worker := range int64(8) {
		go func() {
			right := true
			own := fullHits(10, worker)
			for range 300 {
				merged := impl.MergeHits(own, shared, 20).Hits
				right = right && slices.Equal(merged, slices.Concat(own, shared[:10])) && slices.Equal(impl.BestOf(merged, 10).Hits, own)
			}
			done <- right
		}()
	}
	for range 8 {
		if !<-done {
			t.Error("a call answered otherwise beside others")
		}
	}
}
