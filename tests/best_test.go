package tests

import (
	"math"
	"math/rand"
	"slices"
	"testing"

	"loop.example/g00357/impl"
)

// orderedHits sorts and leaves out by the library, not as the program does: all hits, the best one first, each once.
func orderedHits(list []impl.Hit) []impl.Hit {
	all := slices.Clone(list)
	slices.SortFunc(all, func(a, b impl.Hit) int {
		if a.Score != b.Score {
			return int(a.Score - b.Score)
		}
		return int(a.Id - b.Id)
	})
	return slices.Compact(all)
}

func bestHits(list []impl.Hit, k int64) []impl.Hit {
	all := orderedHits(list)
	return all[:min(int(k), len(all))]
}

func wantHits(t *testing.T, what string, got impl.HitsResult, want []impl.Hit) {
	t.Helper()
	if got.Code != impl.OK || !slices.Equal(got.Hits, want) {
		t.Fatalf("%s: %+v, want %v", what, got, want)
	}
}

// someHits are n hits of few Ids and Scores (so that many are alike), or of all of them; the same ones at each run.
func someHits(from *rand.Rand, n int, ids int64, scores int64) []impl.Hit {
	list := make([]impl.Hit, n)
	for i := range list {
		list[i] = impl.Hit{Id: 1 + from.Int63n(ids), Score: from.Int63n(scores)}
	}
	return list
}

// manyHits are lists of all sizes up to 200, of hits that are alike, of one Score, of one Id, and far apart.
func manyHits() [][]impl.Hit {
	from := rand.New(rand.NewSource(2))
	var lists [][]impl.Hit
	for _, n := range []int{0, 1, 2, 3, 5, 19, 20, 21, 40, 100, 199, 200} {
		lists = append(lists, someHits(from, n, 3, 3), someHits(from, n, 5, 8), someHits(from, n, 999, 1), someHits(from, n, 1, impl.MaxScore+1), someHits(from, n, 999, impl.MaxScore+1))
	}
	return lists
}

// fullHits is a list of n hits, the first one of that Score.
func fullHits(n int64, score int64) []impl.Hit {
	var list []impl.Hit
	for i := range n {
		list = append(list, impl.Hit{Id: 1 + i%2, Score: score + i/2})
	}
	return list
}

func TestHitBounds(t *testing.T) {
	if impl.MaxBest != 20 || impl.MaxScore != 12000000 {
		t.Error(impl.MaxBest, impl.MaxScore)
	}
	if far := impl.ScoreOf([]int64{-1000, -1000, -1000}, []int64{1000, 1000, 1000}); far.Value != impl.MaxScore {
		t.Error("the score of what is farthest apart is", far.Value)
	}
}

func TestIsBetterOfExamples(t *testing.T) {
	for _, x := range []struct {
		a, b impl.Hit
		want bool
	}{
		{impl.Hit{Id: 1, Score: 5}, impl.Hit{Id: 3, Score: 5}, true},
		{impl.Hit{Id: 3, Score: 5}, impl.Hit{Id: 1, Score: 5}, false},
		{impl.Hit{Id: 3, Score: 5}, impl.Hit{Id: 3, Score: 5}, false},
		{impl.Hit{Id: 9, Score: 4}, impl.Hit{Id: 1, Score: 5}, true},
		{impl.Hit{Id: 1, Score: 5}, impl.Hit{Id: 9, Score: 4}, false},
		{impl.Hit{Id: 7, Score: 0}, impl.Hit{Id: 7, Score: impl.MaxScore}, true},
		{impl.Hit{Id: 7, Score: impl.MaxScore}, impl.Hit{Id: 7, Score: 0}, false},
	} {
		if got := impl.IsBetter(x.a, x.b); got != x.want {
			t.Errorf("IsBetter(%v, %v) = %v", x.a, x.b, got)
		}
	}
}

// IsBetter answers at every hit, also far out of bounds: of two that are not alike just one is better, and who is better than a better one is better.
func TestIsBetterIsOneOrder(t *testing.T) {
	numbers := []int64{math.MinInt64, math.MinInt64 + 1, -1, 0, 1, 2, 999, impl.MaxScore, math.MaxInt64 - 1, math.MaxInt64}
	var hits []impl.Hit
	for _, id := range numbers {
		for _, score := range numbers {
			hits = append(hits, impl.Hit{Id: id, Score: score})
		}
	}
	for _, a := range hits {
		for _, b := range hits {
			want := a.Score < b.Score || a.Score == b.Score && a.Id < b.Id
			if impl.IsBetter(a, b) != want || want && impl.IsBetter(b, a) || a != b && !want && !impl.IsBetter(b, a) {
				t.Fatalf("IsBetter of %v and %v", a, b)
			}
			for _, c := range hits {
				if want && impl.IsBetter(b, c) && !impl.IsBetter(a, c) {
					t.Fatalf("%v is better than %v, that than %v, and not the first than the last", a, b, c)
				}
			}
		}
	}
}

func TestHitsFaultOfLists(t *testing.T) {
	lists := [][]impl.Hit{nil, {}, {{Id: 1}}, {{Id: 999, Score: impl.MaxScore}}, {{Id: 4, Score: 1}, {Id: 4, Score: 2}}, {{Id: 4, Score: 2}, {Id: 5, Score: 2}}, {{Id: 999, Score: 0}, {Id: 1, Score: 1}}}
	for n := range int64(impl.MaxBest + 1) {
		lists = append(lists, fullHits(n, 0), fullHits(n, impl.MaxScore-n/2))
	}
	for _, list := range lists {
		if code := impl.HitsFault(list); code != impl.OK {
			t.Errorf("HitsFault(%v) = %d", list, code)
		}
	}
}

func TestBestOfExamples(t *testing.T) {
	list := []impl.Hit{{Id: 3, Score: 5}, {Id: 1, Score: 5}, {Id: 2, Score: 1}, {Id: 1, Score: 5}, {Id: 1, Score: 9}}
	all := []impl.Hit{{Id: 2, Score: 1}, {Id: 1, Score: 5}, {Id: 3, Score: 5}, {Id: 1, Score: 9}}
	for k := range int64(impl.MaxBest + 1) {
		wantHits(t, "BestOf", impl.BestOf(list, k), all[:min(k, 4)])
		wantHits(t, "BestOf nil", impl.BestOf(nil, k), nil)
		wantHits(t, "BestOf none", impl.BestOf([]impl.Hit{}, k), nil)
	}
}

// Hits that are alike in both are one; those that are alike in one of both are two.
func TestHitsThatAreAlike(t *testing.T) {
	one := impl.Hit{Id: 7, Score: 70}
	for n := 1; n <= 200; n++ {
		list := slices.Repeat([]impl.Hit{one}, n)
		wantHits(t, "BestOf", impl.BestOf(list, 0), nil)
		wantHits(t, "BestOf", impl.BestOf(list, 1), []impl.Hit{one})
		wantHits(t, "BestOf", impl.BestOf(list, 20), []impl.Hit{one})
	}
	for _, other := range []impl.Hit{{Id: 7, Score: 71}, {Id: 8, Score: 70}} {
		both := []impl.Hit{one, other}
		wantHits(t, "BestOf", impl.BestOf([]impl.Hit{other, one, one, other}, 2), both)
		wantHits(t, "AddHit", impl.AddHit(both, one, 2), both)
		wantHits(t, "AddHit", impl.AddHit(both, other, 3), both)
		wantHits(t, "AddHit", impl.AddHit(both[:1], other, 2), both)
		wantHits(t, "AddHit", impl.AddHit(both[1:], one, 2), both)
		wantHits(t, "MergeHits", impl.MergeHits(both, both, 20), both)
		wantHits(t, "MergeHits", impl.MergeHits(both[:1], both, 2), both)
		wantHits(t, "MergeHits", impl.MergeHits(both[1:], both[:1], 2), both)
	}
}

func eachOrder(list []impl.Hit, from int, tell func([]impl.Hit)) {
	if from == len(list) {
		tell(list)
		return
	}
	for i := from; i < len(list); i++ {
		list[from], list[i] = list[i], list[from]
		eachOrder(list, from+1, tell)
		list[from], list[i] = list[i], list[from]
	}
}

// P3: the best ones are the same in whatever order they come: all orders of a few.
func TestBestOfAllOrders(t *testing.T) {
	for _, list := range [][]impl.Hit{
		{{Id: 1}, {Id: 2}, {Id: 3}, {Id: 4}, {Id: 5}, {Id: 6}},
		{{Id: 1, Score: 6}, {Id: 2, Score: 5}, {Id: 3, Score: 4}, {Id: 4, Score: 4}, {Id: 5, Score: 2}, {Id: 6}},
		{{Id: 1, Score: 3}, {Id: 1, Score: 3}, {Id: 1, Score: 2}, {Id: 2, Score: 3}, {Id: 2, Score: 2}, {Id: 2, Score: 2}},
	} {
		for k := range int64(8) {
			want := bestHits(list, k)
			eachOrder(slices.Clone(list), 0, func(turned []impl.Hit) {
				wantHits(t, "BestOf", impl.BestOf(turned, k), want)
			})
		}
	}
}

// P3: so of many, turned round, shuffled, and told twice.
func TestBestOfManyOrders(t *testing.T) {
	from := rand.New(rand.NewSource(3))
	for _, list := range manyHits() {
		for k := range int64(impl.MaxBest + 1) {
			want := impl.BestOf(list, k)
			wantHits(t, "BestOf", want, bestHits(list, k))
			turned := slices.Clone(list)
			slices.Reverse(turned)
			wantHits(t, "BestOf, turned", impl.BestOf(turned, k), want.Hits)
			from.Shuffle(len(turned), func(i, j int) { turned[i], turned[j] = turned[j], turned[i] })
			wantHits(t, "BestOf, shuffled", impl.BestOf(turned, k), want.Hits)
			wantHits(t, "BestOf, in order", impl.BestOf(orderedHits(list), k), want.Hits)
			if len(list) <= 100 {
				wantHits(t, "BestOf, twice", impl.BestOf(slices.Concat(list, list), k), want.Hits)
			}
		}
	}
}

// P3: none that is left out is better; what is told was there, and is a list, as long as it may be.
func TestNoneLeftOutIsBetter(t *testing.T) {
	for _, list := range manyHits() {
		for k := range int64(impl.MaxBest + 1) {
			best := impl.BestOf(list, k).Hits
			if int64(len(best)) > k || impl.HitsFault(best) != impl.OK {
				t.Fatalf("BestOf(%v, %d) = %v: no list of so many", list, k, best)
			}
			for _, h := range best {
				if !slices.Contains(list, h) {
					t.Fatalf("BestOf(%v, %d) = %v: %v was not there", list, k, best, h)
				}
			}
			for _, h := range list {
				if slices.Contains(best, h) {
					continue
				}
				if int64(len(best)) < k || k > 0 && !impl.IsBetter(best[k-1], h) {
					t.Fatalf("BestOf(%v, %d) = %v: %v is left out", list, k, best, h)
				}
			}
		}
	}
}

// orderedLists are lists of hits of all sizes up to MaxBest, many of which have hits in common.
func orderedLists() [][]impl.Hit {
	lists := [][]impl.Hit{nil, fullHits(20, 0), fullHits(20, 5), fullHits(20, 10), fullHits(20, impl.MaxScore-9), fullHits(1, 3)}
	for _, list := range manyHits() {
		lists = append(lists, bestHits(list, impl.MaxBest), bestHits(list, 7))
	}
	return lists
}

// P3: the best ones of two lists are the best ones of all.
func TestMergeIsBestOfAll(t *testing.T) {
	lists := orderedLists()
	for _, a := range lists {
		for _, b := range lists {
			all := slices.Concat(a, b)
			for _, k := range []int64{0, 1, 2, 7, 19, 20} {
				want := bestHits(all, k)
				wantHits(t, "MergeHits", impl.MergeHits(a, b, k), want)
				wantHits(t, "MergeHits, the other way", impl.MergeHits(b, a, k), want)
				wantHits(t, "BestOf of both", impl.BestOf(all, k), want)
			}
		}
	}
}

// P3: the best ones of the best ones of two parts are the best ones of all, wherever it is cut.
func TestMergeOfParts(t *testing.T) {
	for _, list := range manyHits() {
		for _, cut := range []int{0, 1, len(list) / 3, len(list) / 2, len(list)} {
			cut = min(cut, len(list))
			for _, k := range []int64{0, 1, 2, 3, 10, 20} {
				a, b := impl.BestOf(list[:cut], k).Hits, impl.BestOf(list[cut:], k).Hits
				wantHits(t, "MergeHits of parts", impl.MergeHits(a, b, k), impl.BestOf(list, k).Hits)
			}
		}
	}
}

// P3: hits that are added one by one are the best ones of all.
func TestAddOneByOne(t *testing.T) {
	for _, list := range manyHits() {
		for k := range int64(impl.MaxBest + 1) {
			var kept []impl.Hit
			for i, h := range list {
				got := impl.AddHit(kept, h, k)
				wantHits(t, "AddHit", got, bestHits(list[:i+1], k))
				kept = got.Hits
			}
		}
	}
}

// A list may be longer than k: what is told is cut, also where h is not among it.
func TestAddHitCuts(t *testing.T) {
	list := []impl.Hit{{Id: 2, Score: 1}, {Id: 4, Score: 1}, {Id: 1, Score: 5}}
	for _, x := range []struct {
		h    impl.Hit
		k    int64
		want []impl.Hit
	}{
		{impl.Hit{Id: 1, Score: 0}, 0, nil},
		{impl.Hit{Id: 1, Score: 0}, 1, []impl.Hit{{Id: 1, Score: 0}}},
		{impl.Hit{Id: 3, Score: 1}, 2, []impl.Hit{{Id: 2, Score: 1}, {Id: 3, Score: 1}}},
		{impl.Hit{Id: 5, Score: 1}, 2, list[:2]},
		{impl.Hit{Id: 1, Score: 5}, 2, list[:2]},
		{impl.Hit{Id: 1, Score: 5}, 3, list},
		{impl.Hit{Id: 1, Score: 5}, 4, list},
		{impl.Hit{Id: 999, Score: impl.MaxScore}, 4, []impl.Hit{list[0], list[1], list[2], {Id: 999, Score: impl.MaxScore}}},
		{impl.Hit{Id: 999, Score: impl.MaxScore}, 3, list},
	} {
		wantHits(t, "AddHit", impl.AddHit(list, x.h, x.k), x.want)
	}
	full := fullHits(20, 1)
	wantHits(t, "AddHit to a full list", impl.AddHit(full, impl.Hit{Id: 1}, 20), slices.Concat([]impl.Hit{{Id: 1}}, full[:19]))
	wantHits(t, "AddHit behind a full list", impl.AddHit(full, impl.Hit{Id: 1, Score: 500}, 20), full)
	for _, h := range full {
		wantHits(t, "AddHit of one that is there", impl.AddHit(full, h, 20), full)
	}
}

// The first k are the beginning of the first k and one.
func TestMoreWantedIsLonger(t *testing.T) {
	for _, list := range manyHits() {
		longer := impl.BestOf(list, impl.MaxBest).Hits
		for k := range int64(impl.MaxBest) {
			wantHits(t, "BestOf", impl.BestOf(list, k), longer[:min(int(k), len(longer))])
		}
	}
}

func TestRankOfExamples(t *testing.T) {
	list := []impl.Hit{{Id: 5, Score: 0}, {Id: 2, Score: 1}, {Id: 999, Score: 1}, {Id: 2, Score: 4}, {Id: 1, Score: impl.MaxScore}}
	wantInt(t, "RankOf 5", impl.RankOf(list, 5), 0)
	wantInt(t, "RankOf 2, which is there twice", impl.RankOf(list, 2), 1)
	wantInt(t, "RankOf 999", impl.RankOf(list, 999), 2)
	wantInt(t, "RankOf 1", impl.RankOf(list, 1), 4)
	for _, list := range orderedLists() {
		for id := int64(1); id <= 999; id++ {
			at := slices.IndexFunc(list, func(h impl.Hit) bool { return h.Id == id })
			if at < 0 {
				wantIntCode(t, "RankOf", impl.RankOf(list, id), impl.ErrNone)
			} else {
				wantInt(t, "RankOf", impl.RankOf(list, id), int64(at))
			}
		}
	}
}
