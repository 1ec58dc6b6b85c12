package tests

import (
	"math"
	"regexp"
	"slices"
	"strconv"
	"strings"
	"testing"

	"loop.example/g00357/impl"
)

// wrongWrite is no write, and has the code that is named first of it.
type wrongWrite struct {
	w    impl.Write
	code int64
}

func outOf(low, high int64) []int64 {
	return []int64{low - 1, high + 1, -1, -high, 1 << 32, math.MinInt64, math.MaxInt64}
}

// wrongNumbers are w with one number out of bounds.
func wrongNumbers(w impl.Write) []impl.Write {
	var list []impl.Write
	for _, id := range outOf(1, 999) {
		other := w
		other.Id = id
		list = append(list, other)
	}
	for _, session := range outOf(1, 9) {
		other := w
		other.Session = session
		list = append(list, other)
	}
	for _, seq := range outOf(1, 999) {
		other := w
		other.Seq = seq
		list = append(list, other)
	}
	return list
}

// wrongWrites have one fault, or several: the Kind and the Vec of a drop are asked ahead of the numbers, and those ahead of the Vec of a put.
func wrongWrites() []wrongWrite {
	put, drop := putOf(2, 3, 4, 1, -1, 0), dropOf(2, 3, 4)
	list := []wrongWrite{{impl.Write{}, impl.ErrForm}, {impl.Write{Kind: 1}, impl.ErrRange}, {impl.Write{Kind: 2}, impl.ErrRange}}
	for _, base := range append(append(wrongNumbers(put), wrongNumbers(drop)...), put, drop) {
		for _, kind := range []int64{0, -1, 3, -2, 1 << 32, 1<<32 + 1, math.MinInt64, math.MaxInt64} {
			other := base
			other.Kind = kind
			list = append(list, wrongWrite{other, impl.ErrForm})
		}
	}
	for _, w := range wrongNumbers(put) {
		list = append(list, wrongWrite{w, impl.ErrRange})
		for _, x := range wrongVecs() {
			other := w
			other.Vec = x.v
			list = append(list, wrongWrite{other, impl.ErrRange})
		}
	}
	for _, x := range wrongVecs() {
		other := put
		other.Vec = x.v
		list = append(list, wrongWrite{other, x.code})
	}
	vecs := [][]int64{{0, 0, 0}, {1, 2, 3}, {0}, {1001, 0, 0}, {0, 0, 0, 0}, make([]int64, 500)}
	for _, w := range append(wrongNumbers(drop), drop) {
		for _, v := range vecs {
			other := w
			other.Vec = v
			list = append(list, wrongWrite{other, impl.ErrForm})
		}
	}
	for _, w := range wrongNumbers(drop) {
		list = append(list, wrongWrite{w, impl.ErrRange})
	}
	return list
}

// P1: a wrong write has the code that is named first, and all else is zero.
func TestWrongWrites(t *testing.T) {
	for _, x := range wrongWrites() {
		if code := impl.WriteFault(x.w); code != x.code {
			t.Errorf("WriteFault(%+v) = %d, want %d", x.w, code, x.code)
		}
		wantListCode(t, "PackWrite", impl.PackWrite(x.w), x.code)
		if got := impl.WriteText(x.w); got != (impl.TextResult{Code: x.code}) {
			t.Errorf("WriteText(%+v) = %+v, want the code %d alone", x.w, got, x.code)
		}
	}
}

func wantNoWrite(t *testing.T, what any, got impl.WriteResult) {
	t.Helper()
	if got.Code != impl.ErrText || !alike(got.Write, impl.Write{}) {
		t.Fatalf("%v: %+v, want ErrText alone", what, got)
	}
}

// writeOfWords asks the bounds of each word: the write of these words, if there is one.
func writeOfWords(words []int64) (impl.Write, bool) {
	if len(words) != 8 || words[1] < 1 || words[1] > 999 || words[2] < 1 || words[2] > 9 || words[3] < 1 || words[3] > 999 {
		return impl.Write{}, false
	}
	w := dropOf(words[1], words[2], words[3])
	if words[0] == 1 {
		w = putOf(words[1], words[2], words[3], words[4], words[5], words[6])
		for _, part := range w.Vec {
			if part < -1000 || part > 1000 {
				return impl.Write{}, false
			}
		}
	}
	return w, slices.Equal(words, wordsOfWrite(w))
}

func checkWords(t *testing.T, words []int64) {
	t.Helper()
	got := impl.UnpackWrite(words)
	if w, ok := writeOfWords(words); ok {
		wantWrite(t, "UnpackWrite", got, w)
		wantList(t, "PackWrite", impl.PackWrite(got.Write), words)
		return
	}
	wantNoWrite(t, words, got)
}

func fewWrites() []impl.Write {
	return []impl.Write{putOf(2, 3, 4, 1, -1, 0), putOf(1, 1, 1, 0, 0, 0), putOf(999, 9, 999, 1000, -1000, 1000), putOf(500, 5, 500, -1000, -1000, -1000), putOf(1, 1, 1, -3, 0, 1), putOf(1, 1, 1, 0, 0, -1), dropOf(7, 1, 2), dropOf(1, 1, 1), dropOf(999, 9, 999)}
}

// P4: words that no write has: too few of them, or too many.
func TestTooFewOrManyWords(t *testing.T) {
	wantNoWrite(t, "UnpackWrite of nil", impl.UnpackWrite(nil))
	wantNoWrite(t, "UnpackWrite of none", impl.UnpackWrite([]int64{}))
	for n := range 20 {
		wantNoWrite(t, n, impl.UnpackWrite(make([]int64, n)))
	}
	for _, w := range fewWrites() {
		words := impl.PackWrite(w).List
		for n := range 8 {
			wantNoWrite(t, words[:n], impl.UnpackWrite(words[:n]))
			wantNoWrite(t, words[n+1:], impl.UnpackWrite(words[n+1:]))
			checkWords(t, slices.Concat(words[n:], words[:n]))
		}
		for _, more := range []int64{0, 1, words[7], math.MaxInt64} {
			wantNoWrite(t, "one more behind", impl.UnpackWrite(append(slices.Clone(words), more)))
			wantNoWrite(t, "one more ahead", impl.UnpackWrite(append([]int64{more}, words...)))
		}
		wantNoWrite(t, "twice", impl.UnpackWrite(slices.Concat(words, words)))
	}
}

// P4: words whose last word is another one; one that 997 leaves the same of is none either.
func TestLastWordIsAnother(t *testing.T) {
	for _, w := range fewWrites() {
		words := impl.PackWrite(w).List
		last := words[7]
		for n := int64(-3000); n <= 3000; n++ {
			words[7] = n
			if n == last {
				wantWrite(t, "UnpackWrite", impl.UnpackWrite(words), w)
			} else {
				wantNoWrite(t, words, impl.UnpackWrite(words))
			}
		}
		for _, n := range []int64{math.MinInt64, math.MinInt64 + last, math.MaxInt64, last + 1<<32, last - 1<<32, last + 997<<40} {
			words[7] = n
			wantNoWrite(t, words, impl.UnpackWrite(words))
		}
	}
}

// P4: one word more or less, and two at once: a write's words, or none's.
func TestWordsNearby(t *testing.T) {
	steps := []int64{-1001, -1000, -997, -17, -13, -3, -1, 1, 2, 3, 5, 7, 11, 13, 17, 997, 1000, 1994}
	for _, w := range fewWrites() {
		words := impl.PackWrite(w).List
		for i := range words {
			for _, step := range steps {
				words[i] += step
				checkWords(t, words)
				for j := range words {
					for _, other := range steps {
						words[j] += other
						checkWords(t, words)
						words[j] -= other
					}
				}
				words[i] -= step
			}
		}
	}
}

// sealed lays the last word behind that these words would have, were they a write's.
func sealed(words ...int64) []int64 {
	sum := int64(0)
	for i, n := range words {
		sum += []int64{1, 3, 5, 7, 11, 13, 17}[i] * n
	}
	return append(words, (sum%997+997)%997)
}

// P4: words that are right by their last word, and no write's for all that.
func TestRightSumsOfNoWrites(t *testing.T) {
	for _, words := range [][]int64{
		sealed(0, 1, 1, 1, 0, 0, 0), sealed(3, 1, 1, 1, 0, 0, 0), sealed(-1, 1, 1, 1, 1, 2, 3), sealed(998, 1, 1, 1, 1, 2, 3),
		sealed(1, 0, 1, 1, 1, 2, 3), sealed(1, 1000, 1, 1, 1, 2, 3), sealed(2, 0, 1, 1, 0, 0, 0), sealed(2, 1000, 1, 1, 0, 0, 0), sealed(2, -5, 1, 1, 0, 0, 0),
		sealed(1, 1, 0, 1, 1, 2, 3), sealed(1, 1, 10, 1, 1, 2, 3), sealed(2, 1, 0, 1, 0, 0, 0), sealed(2, 1, 10, 1, 0, 0, 0),
		sealed(1, 1, 1, 0, 1, 2, 3), sealed(1, 1, 1, 1000, 1, 2, 3), sealed(2, 1, 1, 0, 0, 0, 0), sealed(2, 1, 1, 1000, 0, 0, 0),
		sealed(1, 1, 1, 1, 1001, 0, 0), sealed(1, 1, 1, 1, 0, -1001, 0), sealed(1, 1, 1, 1, 0, 0, 1001), sealed(1, 1, 1, 1, -1001, -1001, -1001),
		sealed(2, 1, 1, 1, 1, 0, 0), sealed(2, 1, 1, 1, 0, -1, 0), sealed(2, 1, 1, 1, 0, 0, 1), sealed(2, 1, 1, 1, 997, 0, 0), sealed(2, 1, 1, 1, 13, -11, 0), sealed(2, 1, 1, 1, 1, 2, 3),
		sealed(1, 1, 1, 1, math.MaxInt64, 0, 0), sealed(1, math.MinInt64, 1, 1, 0, 0, 0), sealed(1, 1, 1, 1, 0, math.MinInt64, math.MinInt64), sealed(2, 1, math.MaxInt64, math.MaxInt64, 0, 0, 0), sealed(math.MaxInt64, 1, 1, 1, 0, 0, 0),
		make([]int64, 8), slices.Repeat([]int64{math.MinInt64}, 8), slices.Repeat([]int64{math.MaxInt64}, 8),
	} {
		wantNoWrite(t, words, impl.UnpackWrite(words))
	}
}

var writePattern = regexp.MustCompile(`^(put|drop) ([1-9][0-9]{0,2})( [-0-9,]+)? by ([1-9]) ([1-9][0-9]{0,2})\z`)

// writeOfText reads by a pattern, not as the program does: the write of a text, if there is one.
func writeOfText(text string) (impl.Write, bool) {
	found := writePattern.FindStringSubmatch(text)
	if found == nil || (found[1] == "put") != (found[3] != "") {
		return impl.Write{}, false
	}
	var n [3]int64
	for i, word := range []string{found[2], found[4], found[5]} {
		n[i], _ = strconv.ParseInt(word, 10, 64)
	}
	if found[1] == "drop" {
		return dropOf(n[0], n[1], n[2]), true
	}
	v := vecOfText(found[3][1:])
	if v == nil {
		return impl.Write{}, false
	}
	return putOf(n[0], n[1], n[2], v[0], v[1], v[2]), true
}

func checkWriteText(t *testing.T, text string) {
	t.Helper()
	got := impl.ParseWrite(text)
	if w, ok := writeOfText(text); ok {
		wantWrite(t, "ParseWrite of "+text, got, w)
		if back := impl.WriteText(got.Write); back != (impl.TextResult{Text: text}) {
			t.Fatalf("%q becomes %+v", text, back)
		}
		return
	}
	wantNoWrite(t, strconv.Quote(text), got)
}

// P4: texts that no write has.
func TestWrongTextsOfWrites(t *testing.T) {
	for _, text := range []string{
		"", " ", "put", "drop", "by", "by 1 2", " by 1 2", "put by 1 2", "drop by 1 2", "7 by 1 2", "put 7", "drop 7", "drop 7 by", "drop 7 by 1", "drop 7 1 2", "drop 7 by 1 2 3", "drop 7 8 by 1 2", "drop 7 by by 1 2", "drop 7 by 1 by 2",
		" drop 7 by 1 2", "drop 7 by 1 2 ", "drop  7 by 1 2", "drop 7  by 1 2", "drop 7 by  1 2", "drop 7 by 1  2", "drop\t7 by 1 2", "drop 7 by 1\t2", "drop 7 by 1 2\n", "\ndrop 7 by 1 2", "drop 7 by 1 2\x00", "drop 7\u00a0by 1 2",
		"Drop 7 by 1 2", "DROP 7 by 1 2", "drop 7 By 1 2", "dropp 7 by 1 2", "dro 7 by 1 2", "drop 7 bye 1 2", "drop 7 b 1 2", "drop 7 to 1 2", "drop7 by 1 2", "drop 7by 1 2", "drop 7 by1 2", "drop 7 by 12",
		"drop 0 by 1 2", "drop 1000 by 1 2", "drop -7 by 1 2", "drop +7 by 1 2", "drop 07 by 1 2", "drop 007 by 1 2", "drop 7, by 1 2", "drop x by 1 2", "drop 7.0 by 1 2", "drop 0x7 by 1 2", "drop 1_0 by 1 2", "drop 18446744073709551623 by 1 2",
		"drop 7 by 0 2", "drop 7 by 10 2", "drop 7 by -1 2", "drop 7 by +1 2", "drop 7 by 01 2", "drop 7 by 1, 2", "drop 7 by 1 0", "drop 7 by 1 1000", "drop 7 by 1 -2", "drop 7 by 1 +2", "drop 7 by 1 02", "drop 7 by 1 2.", "drop 7 by 1 4294967298",
		"drop 7 1,2,3 by 1 2", "drop 7 0,0,0 by 1 2", "put 7 by 1 2", "put 7  by 1 2", "put 7 1,2 by 1 2", "put 7 1,2,3,4 by 1 2", "put 7 1,2,3 4 by 1 2", "put 7 1 2 3 by 1 2", "put 7 1, 2,3 by 1 2", "put 7 1,2,3, by 1 2", "put 7 ,1,2,3 by 1 2",
		"put 7 1001,0,0 by 1 2", "put 7 0,-1001,0 by 1 2", "put 7 -0,0,0 by 1 2", "put 7 01,0,0 by 1 2", "put 7 --1,0,0 by 1 2", "put 7 +1,0,0 by 1 2", "put 7 1,2,- by 1 2", "put 7 1,2,3- by 1 2", "put 1,2,3 7 by 1 2", "1,2,3 put 7 by 1 2",
		"put 0 1,2,3 by 1 2", "put 1000 1,2,3 by 1 2", "put 7 1,2,3 by 0 2", "put 7 1,2,3 by 10 2", "put 7 1,2,3 by 1 0", "put 7 1,2,3 by 1 1000", "put 7 1,2,3 by 1 2 ", "put 7 1,2,3 by 1", "put 7 1,2,3", "put 7 1,2,3 1 2", "put 7 1,2,3 by 1 2\ndrop 7 by 1 3",
		"ask drop 7 by 1 2", "write 7 by 1 2", "1 7 by 1 2", "2 7 by 1 2", "drop ７ by 1 2", "\xff drop 7 by 1 2", "put 7 1，2，3 by 1 2",
	} {
		wantNoWrite(t, strconv.Quote(text), impl.ParseWrite(text))
		checkWriteText(t, text)
	}
}

// P4: one byte more, less or other, and each beginning and end: a write's text, or none's.
func TestWriteTextsNearby(t *testing.T) {
	for _, text := range []string{"put 2 1,-1,0 by 3 4", "drop 7 by 1 2", "put 999 -1000,1000,-100 by 9 999", "drop 100 by 9 10", "drop 1000 by 9 1", "put 10 1,2,1001 by 1 1"} {
		for at := 0; at <= len(text); at++ {
			for b := 0; b < 256; b++ {
				checkWriteText(t, text[:at]+string([]byte{byte(b)})+text[at:])
				if at < len(text) {
					checkWriteText(t, text[:at]+string([]byte{byte(b)})+text[at+1:])
				}
			}
			checkWriteText(t, text[:at])
			checkWriteText(t, text[at:])
			if at < len(text) {
				checkWriteText(t, text[:at]+text[at+1:])
			}
		}
	}
}

// P4: all texts of up to seven of the words at which something turns, with one blank between.
func TestAllTextsOfFewWords(t *testing.T) {
	words := []string{"put", "drop", "by", "7", "1,-2,3", ""}
	texts := slices.Clone(words)
	for size := 1; size <= 7; size++ {
		var longer []string
		for _, text := range texts {
			checkWriteText(t, text)
			if size < 7 {
				for _, word := range words {
					longer = append(longer, text+" "+word)
				}
			}
		}
		texts = longer
	}
}

// All numbers of up to four digits, with and without a 0 ahead, at each place of a number.
func TestNumbersInWriteTexts(t *testing.T) {
	for n := range 2000 {
		for _, ahead := range []string{"", "0", "00", "-", "+"} {
			word := ahead + strconv.Itoa(n)
			checkWriteText(t, "drop "+word+" by 1 2")
			checkWriteText(t, "drop 7 by "+word+" 2")
			checkWriteText(t, "drop 7 by 1 "+word)
			checkWriteText(t, "put "+word+" 0,0,0 by 1 2")
			checkWriteText(t, "put 7 0,"+word+",0 by 1 2")
		}
	}
	for digits := 1; digits < 90; digits++ {
		checkWriteText(t, "drop 1"+strings.Repeat("0", digits)+" by 1 2")
		checkWriteText(t, "drop 7 by "+strings.Repeat("9", digits)+" 2")
		checkWriteText(t, "drop 7 by 1 "+strings.Repeat("9", digits))
	}
}

// A long text ends.
func TestLongTextsOfWrites(t *testing.T) {
	for _, piece := range []string{" ", "0", "9", "-", ",", "by ", "put ", "drop 7 by 1 2 ", "1,2,3 ", "\x00", "\n"} {
		long := strings.Repeat(piece, 50000)
		for _, text := range []string{long, "drop 7 by 1 " + long, "drop " + long + " by 1 2", long + "drop 7 by 1 2", "drop 7 by 1 2" + long, "put 7 " + long + " by 1 2", "put 7 1,2,3 by " + long + " 2"} {
			if got := impl.ParseWrite(text); got.Code != impl.ErrText || !alike(got.Write, impl.Write{}) {
				t.Errorf("ParseWrite of %d times %q: code %d", 50000, piece, got.Code)
			}
		}
	}
}

func scribbleInts(list []int64) {
	for i := range list {
		list[i] = 88
	}
	_ = append(list, 87, 86, 85, 84)
}

// P1: no argument is changed, not even what lies behind it, nor by a change of the answer.
func TestWritesStay(t *testing.T) {
	writes := fewWrites()
	for _, x := range wrongWrites() {
		writes = append(writes, x.w)
	}
	for _, w := range writes {
		vec, room := spareOf(w.Vec)
		was := slices.Clone(room)
		given := w
		given.Vec = vec
		list := []impl.Write{given, given}
		impl.WriteFault(given)
		impl.WriteText(given)
		impl.SameWrites(list, list[:1])
		impl.SameWrites(list, slices.Clone(list))
		scribbleInts(impl.PackWrite(given).List)
		if !slices.Equal(room, was) || !alike(given, w) || !alike(list[0], w) || !alike(list[1], w) {
			t.Fatalf("%+v was changed to %+v", w, given)
		}
	}
	for _, w := range writes {
		words, room := spareOf(wordsOfWrite(putOf(2, 3, 4, 1, -1, 0)))
		words[0], words[1] = w.Kind, w.Id
		was := slices.Clone(room)
		scribbleInts(impl.UnpackWrite(words).Write.Vec)
		if !slices.Equal(room, was) {
			t.Fatalf("%v were changed to %v", was, room)
		}
	}
	for _, w := range fewWrites() {
		words, room := spareOf(wordsOfWrite(w))
		was := slices.Clone(room)
		scribbleInts(impl.UnpackWrite(words).Write.Vec)
		if !slices.Equal(room, was) {
			t.Fatalf("%v were changed to %v", was, room)
		}
	}
}

// P1: an answer stays as it is, whatever becomes of the argument that it came from.
func TestWritesAreNotShared(t *testing.T) {
	want := putOf(2, 3, 4, 1, -1, 0)
	words := wordsOfWrite(want)
	got := impl.UnpackWrite(words)
	scribbleInts(words)
	wantWrite(t, "UnpackWrite", got, want)
	given := putOf(2, 3, 4, 1, -1, 0)
	packed := impl.PackWrite(given)
	scribbleInts(given.Vec)
	wantList(t, "PackWrite", packed, wordsOfWrite(want))
}

// P1: each answer is new memory, and the same whatever was called or changed ahead of it.
func TestWritesAreNew(t *testing.T) {
	want := putOf(2, 3, 4, 1, -1, 0)
	words := wordsOfWrite(want)
	for _, ask := range []func() []int64{
		func() []int64 { return impl.UnpackWrite(words).Write.Vec },
		func() []int64 { return impl.ParseWrite("put 2 1,-1,0 by 3 4").Write.Vec },
		func() []int64 { return impl.PackWrite(want).List[4:7] },
	} {
		first := ask()
		kept := ask()
		scribbleInts(first)
		impl.ParseWrite("put 2 1,-1 by 3 4")
		impl.UnpackWrite(nil)
		impl.PackWrite(putOf(9, 9, 9, 9, 9, 9))
		for _, list := range [][]int64{kept, ask(), want.Vec} {
			if !slices.Equal(list, []int64{1, -1, 0}) {
				t.Errorf("an answer became %v by a change of another one", list)
			}
		}
	}
}

// P1: calls at the same time keep nothing that another one could see (a run with -race tells of it as well).
func TestWritesBesideOneAnother(t *testing.T) {
	done := make(chan bool)
	shared := putOf(2, 3, 4, 1, -1, 0)
	for worker := range int64(8) {
		go func() {
			right := true
			for _, w := range []impl.Write{putOf(worker+1, worker+1, worker+9, worker, -worker, 1000), dropOf(worker+1, 1, 2), shared} {
				for range 500 {
					right = right && alike(impl.UnpackWrite(impl.PackWrite(w).List).Write, w) && alike(impl.ParseWrite(impl.WriteText(w).Text).Write, w)
				}
			}
			done <- right
		}()
	}
	for range 8 {
		if !<-done {
			t.Error("a call answered otherwise beside others")
		}
	}
}
