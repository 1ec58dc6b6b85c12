package tests

import (
	"math/rand"
	"slices"
	"strconv"
	"testing"

	"loop.example/g00357/impl"
)

// edgeParts are the parts at which something turns: the bounds, 0, and where a text gets a digit more.
var edgeParts = []int64{-1000, -999, -100, -99, -10, -9, -1, 0, 1, 9, 10, 99, 100, 999, 1000}

// edgeVecs are all vectors of some of these parts.
func edgeVecs() [][]int64 {
	parts := []int64{-1000, -999, -7, -1, 0, 1, 10, 999, 1000}
	var list [][]int64
	for _, a := range parts {
		for _, b := range parts {
			for _, c := range parts {
				list = append(list, []int64{a, b, c})
			}
		}
	}
	return list
}

// someVecs are the same ones at each run, so that a failure comes again.
func someVecs(n int) [][]int64 {
	from := rand.New(rand.NewSource(1))
	list := make([][]int64, n)
	for i := range list {
		list[i] = []int64{from.Int63n(2001) - 1000, from.Int63n(2001) - 1000, from.Int63n(2001) - 1000}
	}
	return list
}

func wantInt(t *testing.T, what string, got impl.IntResult, want int64) {
	t.Helper()
	if got.Code != impl.OK || got.Value != want {
		t.Errorf("%s: %+v, want %d", what, got, want)
	}
}

func wantList(t *testing.T, what string, got impl.IntsResult, want []int64) {
	t.Helper()
	if got.Code != impl.OK || !slices.Equal(got.List, want) {
		t.Errorf("%s: %+v, want %v", what, got, want)
	}
}

func TestCodesAndBounds(t *testing.T) {
	codes := []int64{impl.OK, impl.ErrForm, impl.ErrMany, impl.ErrRange, impl.ErrNone, impl.ErrText, impl.ErrTaken, impl.ErrOld, impl.ErrState, impl.ErrLease, impl.ErrDown}
	for i, code := range codes {
		if code != int64(i) {
			t.Errorf("the code at place %d is %d", i, code)
		}
	}
	if impl.Dim != 3 || impl.MaxPart != 1000 {
		t.Error(impl.Dim, impl.MaxPart)
	}
}

func TestVecFaultOfVectors(t *testing.T) {
	for _, v := range append(edgeVecs(), someVecs(500)...) {
		if code := impl.VecFault(v); code != impl.OK {
			t.Errorf("VecFault(%v) = %d", v, code)
		}
	}
}

func TestScoreAndDotOfExamples(t *testing.T) {
	for _, x := range []struct {
		a, b       []int64
		score, dot int64
	}{
		{[]int64{1, 2, 3}, []int64{1, 0, 0}, 13, 1},
		{[]int64{1, 2, 3}, []int64{-1, 0, 2}, 9, 5},
		{[]int64{0, 0, 0}, []int64{0, 0, 0}, 0, 0},
		{[]int64{1, 0, 0}, []int64{0, 1, 0}, 2, 0},
		{[]int64{0, 0, 5}, []int64{0, 0, -6}, 121, -30},
		{[]int64{-1000, -1000, -1000}, []int64{1000, 1000, 1000}, 12000000, -3000000},
		{[]int64{1000, -1000, 1000}, []int64{1000, -1000, 1000}, 0, 3000000},
	} {
		wantInt(t, "ScoreOf", impl.ScoreOf(x.a, x.b), x.score)
		wantInt(t, "DotOf", impl.DotOf(x.a, x.b), x.dot)
	}
}

// P2: a score is the same both ways, 0 of a vector and itself alone, and what the products tell of it.
func TestScorePromises(t *testing.T) {
	list := append(someVecs(150), edgeVecs()...)
	for _, a := range list {
		for _, b := range list {
			score := impl.ScoreOf(a, b)
			if score.Code != impl.OK || impl.ScoreOf(b, a) != score || impl.DotOf(a, b) != impl.DotOf(b, a) {
				t.Fatalf("%v and %v: not the same both ways", a, b)
			}
			if (score.Value == 0) != slices.Equal(a, b) || score.Value < 0 {
				t.Fatalf("%v and %v: score %d", a, b, score.Value)
			}
			products := impl.DotOf(a, a).Value + impl.DotOf(b, b).Value - 2*impl.DotOf(a, b).Value
			if score.Value != products {
				t.Fatalf("%v and %v: score %d, by the products %d", a, b, score.Value, products)
			}
		}
	}
}

// Each part is looked at: a difference in one of them alone is a score.
func TestScoreOfOnePart(t *testing.T) {
	for place := range impl.Dim {
		for _, part := range edgeParts {
			v := make([]int64, impl.Dim)
			v[place] = part
			wantInt(t, "ScoreOf", impl.ScoreOf(v, []int64{0, 0, 0}), part*part)
			wantInt(t, "DotOf", impl.DotOf(v, []int64{2, 3, 4}), part*int64(place+2))
		}
	}
}

func TestMeanOfExamples(t *testing.T) {
	for _, x := range []struct {
		sums []int64
		n    int64
		want []int64
	}{
		{[]int64{3, -3, 0}, 2, []int64{2, -1, 0}},
		{[]int64{1, -1, 5}, 2, []int64{1, 0, 3}},
		{[]int64{4, 5, 1}, 3, []int64{1, 2, 0}},
		{[]int64{-4, -5, -1}, 3, []int64{-1, -2, 0}},
		{[]int64{-6, -2, -10}, 4, []int64{-1, 0, -2}},
		{[]int64{-7, -5, -3}, 4, []int64{-2, -1, -1}},
		{[]int64{-5, 7, 1000}, 1, []int64{-5, 7, 1000}},
		{[]int64{-1000, 0, 1000}, 1, []int64{-1000, 0, 1000}},
		{[]int64{-1000000, 1000000, 0}, 1000, []int64{-1000, 1000, 0}},
		{[]int64{-999500, 999500, -999501}, 1000, []int64{-999, 1000, -1000}},
		{[]int64{500, -500, -501}, 1000, []int64{1, 0, -1}},
		{[]int64{499, -499, 501}, 1000, []int64{0, 0, 1}},
		{[]int64{499, 500, -500}, 999, []int64{0, 1, -1}},
	} {
		wantList(t, "MeanOf", impl.MeanOf(x.sums, x.n), x.want)
	}
}

// P2: a mean is a vector, and no nearer number is one. A mean m is m and a rest: twice the rest is above -n and, where both are as near, n itself.
func checkMean(t *testing.T, sums []int64, n int64) {
	t.Helper()
	mean := impl.MeanOf(sums, n)
	if mean.Code != impl.OK || impl.VecFault(mean.List) != impl.OK {
		t.Fatalf("MeanOf(%v, %d) = %+v: no vector", sums, n, mean)
	}
	for i, part := range mean.List {
		twice := 2 * (part*n - sums[i])
		if twice <= -n || twice > n {
			t.Fatalf("MeanOf(%v, %d) = %v: there is a nearer one", sums, n, mean.List)
		}
	}
}

func TestMeanOfAllSmall(t *testing.T) {
	for n := int64(1); n <= 40; n++ {
		top := impl.MaxPart * n
		for sum := -top; sum <= top; sum++ {
			checkMean(t, []int64{sum, -sum, max(sum-1, -top)}, n)
		}
	}
}

func TestMeanOfAllCounts(t *testing.T) {
	for n := int64(1); n <= 1000; n++ {
		top := impl.MaxPart * n
		checkMean(t, []int64{-top, top, 0}, n)
		for _, near := range edgeParts {
			for d := -n / 2; d <= n/2+1; d += max(1, n/20) {
				sum := min(max(near*n+d, -top), top)
				half := min(max(near*n+(n+1)/2, -top), top)
				checkMean(t, []int64{sum, half, min(max(near*n-n/2, -top), top)}, n)
			}
		}
	}
}

func TestVecTextOfExamples(t *testing.T) {
	for _, x := range []struct {
		v    []int64
		text string
	}{
		{[]int64{-1, 0, 20}, "-1,0,20"},
		{[]int64{0, 0, 0}, "0,0,0"},
		{[]int64{1000, -1000, 100}, "1000,-1000,100"},
		{[]int64{-10, 9, -999}, "-10,9,-999"},
	} {
		if got := impl.VecText(x.v); got.Code != impl.OK || got.Text != x.text {
			t.Errorf("VecText(%v) = %+v, want %q", x.v, got, x.text)
		}
		wantList(t, "ParseVec of "+x.text, impl.ParseVec(x.text), x.v)
	}
}

func checkReadBack(t *testing.T, v []int64) {
	t.Helper()
	text := impl.VecText(v)
	want := strconv.FormatInt(v[0], 10) + "," + strconv.FormatInt(v[1], 10) + "," + strconv.FormatInt(v[2], 10)
	if text.Code != impl.OK || text.Text != want {
		t.Fatalf("VecText(%v) = %+v", v, text)
	}
	wantList(t, "ParseVec of "+text.Text, impl.ParseVec(text.Text), v)
}

// P2: a vector is read back from its text.
func TestReadBack(t *testing.T) {
	for _, v := range append(edgeVecs(), someVecs(2000)...) {
		checkReadBack(t, v)
	}
	for part := int64(-impl.MaxPart); part <= impl.MaxPart; part++ {
		checkReadBack(t, []int64{part, 0, -part})
		checkReadBack(t, []int64{-7, part, 8})
		checkReadBack(t, []int64{-part, 1000, part})
	}
}
