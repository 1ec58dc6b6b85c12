package tests

import (
	"math"
	"regexp"
	"slices"
	"strconv"
	"strings"
	"testing"

	"loop.example/g00357/impl"
)

// wrongVec is a list that is no vector, and the code that is named first of it.
type wrongVec struct {
	v    []int64
	code int64
}

func wrongVecs() []wrongVec {
	list := []wrongVec{
		{nil, impl.ErrForm},
		{[]int64{}, impl.ErrForm},
		{[]int64{1}, impl.ErrForm},
		{[]int64{1, 2}, impl.ErrForm},
		{[]int64{1, 2, 3, 4}, impl.ErrForm},
		{make([]int64, 1000), impl.ErrForm},
		{[]int64{1001, 0}, impl.ErrForm},
		{[]int64{0, 0, 0, math.MinInt64}, impl.ErrForm},
	}
	for place := range impl.Dim {
		for _, part := range []int64{-1001, 1001, -2000, 1 << 32, math.MinInt64, math.MinInt64 + 1, math.MaxInt64} {
			v := []int64{1000, -1000, 0}
			v[place] = part
			list = append(list, wrongVec{v, impl.ErrRange})
		}
	}
	return list
}

func wantIntCode(t *testing.T, what string, got impl.IntResult, code int64) {
	t.Helper()
	if got != (impl.IntResult{Code: code}) {
		t.Errorf("%s: %+v, want the code %d alone", what, got, code)
	}
}

func wantListCode(t *testing.T, what string, got impl.IntsResult, code int64) {
	t.Helper()
	if got.Code != code || len(got.List) != 0 {
		t.Errorf("%s: %+v, want the code %d alone", what, got, code)
	}
}

func TestWrongVectors(t *testing.T) {
	for _, x := range wrongVecs() {
		if code := impl.VecFault(x.v); code != x.code {
			t.Errorf("VecFault(%v) = %d, want %d", x.v, code, x.code)
		}
		if got := impl.VecText(x.v); got != (impl.TextResult{Code: x.code}) {
			t.Errorf("VecText(%v) = %+v, want the code %d alone", x.v, got, x.code)
		}
	}
}

// All codes of a stand ahead of those of b, whatever their numbers are.
func TestWrongPairs(t *testing.T) {
	good := []int64{1, 2, 3}
	for _, x := range wrongVecs() {
		wantIntCode(t, "ScoreOf, a wrong", impl.ScoreOf(x.v, good), x.code)
		wantIntCode(t, "ScoreOf, b wrong", impl.ScoreOf(good, x.v), x.code)
		wantIntCode(t, "DotOf, a wrong", impl.DotOf(x.v, good), x.code)
		wantIntCode(t, "DotOf, b wrong", impl.DotOf(good, x.v), x.code)
		for _, y := range wrongVecs() {
			wantIntCode(t, "ScoreOf, both wrong", impl.ScoreOf(x.v, y.v), x.code)
			wantIntCode(t, "DotOf, both wrong", impl.DotOf(x.v, y.v), x.code)
		}
	}
}

func TestWrongMeans(t *testing.T) {
	for _, n := range []int64{0, -1, 1001, -1000, math.MinInt64, math.MaxInt64, math.MaxInt64 / 1000, math.MinInt64/1000 - 1} {
		for _, sums := range [][]int64{{0, 0, 0}, nil, {1, 2}, {1, 2, 3, 4}, {math.MaxInt64, 0, 0}} {
			wantListCode(t, "MeanOf, n wrong", impl.MeanOf(sums, n), impl.ErrRange)
		}
	}
	for _, n := range []int64{1, 2, 999, 1000} {
		for _, sums := range [][]int64{nil, {}, {1}, {1, 2}, {1, 2, 3, 4}, {math.MinInt64, 0}, {0, 0, 0, math.MaxInt64}} {
			wantListCode(t, "MeanOf, too few or many", impl.MeanOf(sums, n), impl.ErrForm)
		}
		top := impl.MaxPart * n
		for place := range impl.Dim {
			for _, sum := range []int64{-top - 1, top + 1, math.MinInt64, math.MaxInt64} {
				sums := []int64{top, -top, 0}
				sums[place] = sum
				wantListCode(t, "MeanOf, a sum wrong", impl.MeanOf(sums, n), impl.ErrRange)
			}
		}
	}
}

var vecPattern = regexp.MustCompile(`^(0|-?[1-9][0-9]{0,3}),(0|-?[1-9][0-9]{0,3}),(0|-?[1-9][0-9]{0,3})\z`)

// vecOfText reads by a pattern, not as the program does: the vector of a text, nil without one.
func vecOfText(text string) []int64 {
	found := vecPattern.FindStringSubmatch(text)
	if found == nil {
		return nil
	}
	var list []int64
	for _, word := range found[1:] {
		part, err := strconv.ParseInt(word, 10, 64)
		if err != nil || part < -1000 || part > 1000 {
			return nil
		}
		list = append(list, part)
	}
	return list
}

func checkText(t *testing.T, text string) {
	t.Helper()
	got, want := impl.ParseVec(text), vecOfText(text)
	if want == nil {
		if got.Code != impl.ErrText || len(got.List) != 0 {
			t.Errorf("ParseVec(%q) = %+v, want ErrText alone", text, got)
		}
		return
	}
	if got.Code != impl.OK || !slices.Equal(got.List, want) || impl.VecText(got.List).Text != text {
		t.Errorf("ParseVec(%q) = %+v, want %v", text, got, want)
	}
}

func TestWrongTexts(t *testing.T) {
	for _, text := range []string{
		"", ",", ",,", "-", "-,-,-", "0", "1,2", "1,2,", "1,2,3,", ",1,2,3", "1,,2,3", "1,2,3,4", "1,2,,", ",,3", "1 ,2,3", "1,2,3 ", " 1,2,3", "1, 2,3", "1,2,3\n", "\n1,2,3", "1,2,3\x00", "1\x00,2,3", "1;2;3", "1.2.3", "1,2.0,3",
		"-0,1,2", "1,-0,2", "1,2,-0", "00,1,2", "1,01,2", "1,2,-01", "0001,2,3", "1,2,0010", "--1,2,3", "1,+2,3", "+1,2,3", "1-,2,3", "1,2-3", "1,2,3-", "1,2,- 3", "1e2,0,0", "0x1,0,0", "1_0,0,0", "a,b,c", "1,b,3",
		"1001,0,0", "0,-1001,0", "0,0,1001", "0,0,9999", "0,0,10000", "-10000,0,0", "9223372036854775807,0,0", "0,-9223372036854775808,0", "18446744073709551617,0,0", "0,0,340282366920938463463374607431768211457",
		"１,2,3", "1，2，3", "−1,2,3", "1,2,3\u00a0", "\xff,1,2", "1,2,\xb3",
	} {
		if got := impl.ParseVec(text); got.Code != impl.ErrText || len(got.List) != 0 {
			t.Errorf("ParseVec(%q) = %+v, want ErrText alone", text, got)
		}
		checkText(t, text)
	}
}

// A long text ends, and no count of digits wraps round into a part.
func TestLongTexts(t *testing.T) {
	for _, piece := range []string{"0", "1", "9", "-", ",", "1,", "1,2,3,", "\x00", " "} {
		long := strings.Repeat(piece, 100000)
		for _, text := range []string{long, "1,2," + long, long + ",2,3", "1,2,3" + long, "-" + long + ",0,0"} {
			if got := impl.ParseVec(text); got.Code != impl.ErrText || len(got.List) != 0 {
				t.Errorf("ParseVec of %d times %q: code %d", 100000, piece, got.Code)
			}
		}
	}
	for digits := 1; digits < 90; digits++ {
		checkText(t, "1"+strings.Repeat("0", digits)+",0,0")
		checkText(t, "0,0,-"+strings.Repeat("9", digits))
	}
}

// All texts of up to nine of the bytes at which the machine turns.
func TestAllShortTexts(t *testing.T) {
	texts := []string{""}
	for from := 0; from < len(texts); from++ {
		checkText(t, texts[from])
		if len(texts[from]) < 9 {
			for _, b := range []string{"-", ",", "0", "7"} {
				texts = append(texts, texts[from]+b)
			}
		}
	}
}

// One byte more, less or other: a text is one vector's, or none's.
func TestTextsNearby(t *testing.T) {
	for _, text := range []string{"0,0,0", "-1,0,20", "1000,-1000,100", "-999,10,-9", "1000,1000,1000", "7,-1001,3"} {
		for at := 0; at <= len(text); at++ {
			for b := 0; b < 256; b++ {
				checkText(t, text[:at]+string([]byte{byte(b)})+text[at:])
				if at < len(text) {
					checkText(t, text[:at]+string([]byte{byte(b)})+text[at+1:])
				}
			}
			if at < len(text) {
				checkText(t, text[:at]+text[at+1:])
				checkText(t, text[:at])
			}
		}
	}
}

// spareOf is a list with room behind it, and all of that room, so that a write behind its end is seen too.
func spareOf(v []int64) (list []int64, room []int64) {
	room = append(slices.Clone(v), 77, 78, 79, 80)
	return room[:len(v)], room
}

// P1: no argument is changed, not even what lies behind it, nor by a change of the answer.
func TestArgumentsStay(t *testing.T) {
	lists := [][]int64{nil, {1}, {1, 2, 3}, {-1000, 0, 1000}, {5, 1001, 6}, {1, 2, 3, 4}, {3, -3, math.MaxInt64}}
	for _, x := range lists {
		for _, y := range lists {
			a, roomA := spareOf(x)
			b, roomB := spareOf(y)
			wasA, wasB := slices.Clone(roomA), slices.Clone(roomB)
			impl.VecFault(a)
			impl.ScoreOf(a, b)
			impl.DotOf(a, b)
			impl.VecText(a)
			for _, n := range []int64{-1, 1, 2, 1000, 1001} {
				mean := impl.MeanOf(a, n).List
				for i := range mean {
					mean[i] = 99
				}
				_ = append(mean, 98, 97, 96)
			}
			if !slices.Equal(roomA, wasA) || !slices.Equal(roomB, wasB) {
				t.Fatalf("%v and %v were changed to %v and %v", wasA, wasB, roomA, roomB)
			}
		}
	}
}

// P1: a vector may be held against itself, and one list may be both arguments.
func TestOneListTwice(t *testing.T) {
	v := []int64{-3, 4, 1000}
	wantInt(t, "ScoreOf", impl.ScoreOf(v, v), 0)
	wantInt(t, "DotOf", impl.DotOf(v, v), 1000025)
	w := []int64{1, 2, 3, 4, 5}
	wantInt(t, "ScoreOf", impl.ScoreOf(w[:3], w[2:]), 12)
}

// P1: each answer is new memory, and the same whatever was called or changed ahead of it.
func TestAnswersAreNew(t *testing.T) {
	for _, ask := range []func() []int64{
		func() []int64 { return impl.MeanOf([]int64{3, -3, 0}, 2).List },
		func() []int64 { return impl.ParseVec("2,-1,0").List },
	} {
		first := ask()
		kept := ask()
		for i := range first {
			first[i] = 55
		}
		_ = append(first[:0], 1, 2, 3, 4)
		impl.ParseVec("1,2,")
		impl.MeanOf(nil, 0)
		for _, list := range [][]int64{kept, ask()} {
			if !slices.Equal(list, []int64{2, -1, 0}) {
				t.Errorf("an answer became %v by a change of another one", list)
			}
		}
	}
}

// P1: calls at the same time keep nothing that another one could see (a run with -race tells of it as well).
func TestCallsBesideOneAnother(t *testing.T) {
	done := make(chan bool)
	for worker := range int64(8) {
		go func() {
			right := true
			v := []int64{worker, -worker, 1000 - worker}
			for range 2000 {
				back := impl.ParseVec(impl.VecText(v).Text).List
				right = right && slices.Equal(back, v) && slices.Equal(impl.MeanOf(v, 1).List, v) && impl.ScoreOf(v, back).Value == 0
			}
			done <- right
		}()
	}
	for range 8 {
		if !<-done {
			t.Error("a call answered otherwise beside others")
		}
	}
}
