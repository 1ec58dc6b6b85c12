package tests

import (
	"fmt"
	"math"
	"math/rand"
	"slices"
	"testing"

	"loop.example/g00357/impl"
)

func putOf(id, session, seq, a, b, c int64) impl.Write {
	return impl.Write{Kind: 1, Id: id, Vec: []int64{a, b, c}, Session: session, Seq: seq}
}

func dropOf(id, session, seq int64) impl.Write {
	return impl.Write{Kind: 2, Id: id, Session: session, Seq: seq}
}

// wordsOfWrite are written out as the document tells them, not as the program does.
func wordsOfWrite(w impl.Write) []int64 {
	v := []int64{0, 0, 0}
	if w.Kind == 1 {
		v = w.Vec
	}
	sum := w.Kind + 3*w.Id + 5*w.Session + 7*w.Seq + 11*v[0] + 13*v[1] + 17*v[2]
	for sum < 0 {
		sum += 997
	}
	for sum > 996 {
		sum -= 997
	}
	return []int64{w.Kind, w.Id, w.Session, w.Seq, v[0], v[1], v[2], sum}
}

func textOfWrite(w impl.Write) string {
	if w.Kind == 1 {
		return fmt.Sprintf("put %d %d,%d,%d by %d %d", w.Id, w.Vec[0], w.Vec[1], w.Vec[2], w.Session, w.Seq)
	}
	return fmt.Sprintf("drop %d by %d %d", w.Id, w.Session, w.Seq)
}

// alike asks each field by itself; no list and one without anything are the same.
func alike(a, b impl.Write) bool {
	return a.Kind == b.Kind && a.Id == b.Id && a.Session == b.Session && a.Seq == b.Seq && slices.Equal(a.Vec, b.Vec)
}

func wantWrite(t *testing.T, what string, got impl.WriteResult, want impl.Write) {
	t.Helper()
	if got.Code != impl.OK || !alike(got.Write, want) {
		t.Fatalf("%s: %+v, want %+v", what, got, want)
	}
}

// manyWrites are puts and drops at all bounds, of all parts at which something turns, and some others, the same ones at each run.
func manyWrites() []impl.Write {
	var list []impl.Write
	for _, id := range []int64{1, 2, 9, 10, 99, 100, 998, 999} {
		for session := int64(1); session <= 9; session++ {
			for _, seq := range []int64{1, 9, 10, 99, 100, 999} {
				list = append(list, dropOf(id, session, seq), putOf(id, session, seq, 0, 0, 0), putOf(id, session, seq, -1000, 1000, -1))
			}
		}
	}
	for i, v := range edgeVecs() {
		list = append(list, putOf(1, 1, 1, v[0], v[1], v[2]), putOf(999, 9, 999, v[0], v[1], v[2]), putOf(int64(i%999+1), int64(i%9+1), 500, v[0], v[1], v[2]))
	}
	from := rand.New(rand.NewSource(4))
	for _, v := range someVecs(1500) {
		list = append(list, putOf(1+from.Int63n(999), 1+from.Int63n(9), 1+from.Int63n(999), v[0], v[1], v[2]))
		list = append(list, dropOf(1+from.Int63n(999), 1+from.Int63n(9), 1+from.Int63n(999)))
	}
	return list
}

func TestKindsOfWrites(t *testing.T) {
	if impl.WritePut != 1 || impl.WriteDrop != 2 {
		t.Error(impl.WritePut, impl.WriteDrop)
	}
	var kind int64 = impl.WritePut
	if impl.WriteFault(impl.Write{Kind: kind, Id: 1, Vec: []int64{0, 0, 0}, Session: 1, Seq: 1}) != impl.OK {
		t.Error("a put of 0,0,0 has a fault")
	}
}

func TestWriteFaultOfWrites(t *testing.T) {
	for _, w := range manyWrites() {
		if code := impl.WriteFault(w); code != impl.OK {
			t.Fatalf("WriteFault(%+v) = %d", w, code)
		}
	}
	empty := dropOf(5, 6, 7)
	empty.Vec = []int64{}
	if code := impl.WriteFault(empty); code != impl.OK {
		t.Error("a drop with an empty Vec has the code", code)
	}
}

func TestPackWriteOfExamples(t *testing.T) {
	for _, x := range []struct {
		w    impl.Write
		want []int64
	}{
		{putOf(2, 3, 4, 1, -1, 0), []int64{1, 2, 3, 4, 1, -1, 0, 48}},
		{dropOf(7, 1, 2), []int64{2, 7, 1, 2, 0, 0, 0, 42}},
		{putOf(7, 1, 2, 0, 0, 0), []int64{1, 7, 1, 2, 0, 0, 0, 41}},
		{putOf(1, 1, 1, -1, 0, 0), []int64{1, 1, 1, 1, -1, 0, 0, 5}},
		{putOf(1, 1, 1, 0, -1, 0), []int64{1, 1, 1, 1, 0, -1, 0, 3}},
		{putOf(1, 1, 1, 0, 0, -1), []int64{1, 1, 1, 1, 0, 0, -1, 996}},
		{putOf(1, 1, 1, 1, -1, -1), []int64{1, 1, 1, 1, 1, -1, -1, 994}},
		{putOf(1, 1, 1, -1000, -1000, -1000), []int64{1, 1, 1, 1, -1000, -1000, -1000, 890}},
		{putOf(999, 9, 999, 1000, 1000, 1000), []int64{1, 999, 9, 999, 1000, 1000, 1000, 189}},
		{dropOf(999, 9, 999), []int64{2, 999, 9, 999, 0, 0, 0, 67}},
		{putOf(1, 1, 1, -3, 0, 1), []int64{1, 1, 1, 1, -3, 0, 1, 0}},
		{putOf(1, 1, 1, -55, 0, -24), []int64{1, 1, 1, 1, -55, 0, -24, 0}},
	} {
		wantList(t, "PackWrite of "+textOfWrite(x.w), impl.PackWrite(x.w), x.want)
		wantWrite(t, "UnpackWrite", impl.UnpackWrite(x.want), x.w)
	}
}

// A sum that is a multiple of 997, from above and from below, leaves 0; none leaves anything below 0 or above 996.
func TestLastWordOfSums(t *testing.T) {
	seen := make([]bool, 997)
	for a := int64(-1000); a <= 1000; a++ {
		for _, w := range []impl.Write{putOf(1, 1, 1, a, 0, 0), putOf(999, 9, 999, a, a, a), putOf(1, 1, 1, a, -1000, -1000), putOf(40, 5, 6, 0, a, -a), putOf(1, 2, 3, -a, 1, a)} {
			words := impl.PackWrite(w)
			wantList(t, "PackWrite of "+textOfWrite(w), words, wordsOfWrite(w))
			seen[words.List[7]] = true
		}
	}
	if slices.Contains(seen, false) {
		t.Error("there is a last word that never came")
	}
}

// Each word counts so many times: one more of it alone is so much more of the last one.
func TestWeightsOfWords(t *testing.T) {
	first := impl.PackWrite(putOf(1, 1, 1, 0, 0, 0)).List[7]
	for i, w := range []impl.Write{putOf(2, 1, 1, 0, 0, 0), putOf(1, 2, 1, 0, 0, 0), putOf(1, 1, 2, 0, 0, 0), putOf(1, 1, 1, 1, 0, 0), putOf(1, 1, 1, 0, 1, 0), putOf(1, 1, 1, 0, 0, 1), dropOf(1, 1, 1)} {
		want := []int64{3, 5, 7, 11, 13, 17, 1}[i]
		if got := impl.PackWrite(w).List[7] - first; got != want {
			t.Errorf("%s has %d more as its last word, want %d", textOfWrite(w), got, want)
		}
	}
}

// P4: a write is read back from its words.
func TestWriteFromItsWords(t *testing.T) {
	for _, w := range manyWrites() {
		words := impl.PackWrite(w)
		wantList(t, "PackWrite of "+textOfWrite(w), words, wordsOfWrite(w))
		wantWrite(t, "UnpackWrite", impl.UnpackWrite(words.List), w)
	}
}

func TestWriteTextOfExamples(t *testing.T) {
	for _, x := range []struct {
		w    impl.Write
		want string
	}{
		{putOf(2, 3, 4, 1, -1, 0), "put 2 1,-1,0 by 3 4"},
		{dropOf(7, 1, 2), "drop 7 by 1 2"},
		{putOf(999, 9, 999, -1000, 1000, -1), "put 999 -1000,1000,-1 by 9 999"},
		{dropOf(999, 9, 999), "drop 999 by 9 999"},
		{putOf(1, 1, 1, 0, 0, 0), "put 1 0,0,0 by 1 1"},
		{dropOf(10, 2, 100), "drop 10 by 2 100"},
	} {
		if got := impl.WriteText(x.w); got != (impl.TextResult{Text: x.want}) {
			t.Errorf("WriteText(%+v) = %+v, want %q", x.w, got, x.want)
		}
		wantWrite(t, "ParseWrite of "+x.want, impl.ParseWrite(x.want), x.w)
	}
}

// P4: a write is read back from its text.
func TestWriteFromItsText(t *testing.T) {
	for _, w := range manyWrites() {
		text := impl.WriteText(w)
		if text != (impl.TextResult{Text: textOfWrite(w)}) {
			t.Fatalf("WriteText(%+v) = %+v", w, text)
		}
		wantWrite(t, "ParseWrite of "+text.Text, impl.ParseWrite(text.Text), w)
	}
}

// P4: so of all Ids, Sessions and Seqs, and of all parts at each place.
func TestAllNumbersOfWrites(t *testing.T) {
	for n := int64(1); n <= 999; n++ {
		for _, w := range []impl.Write{putOf(n, 1, 1, 1, 2, 3), putOf(1, n%9+1, n, -1, -2, -3), dropOf(n, n%9+1, 1), dropOf(1, 9, n), putOf(n, 4, 1000-n, n, -n, n)} {
			wantWrite(t, "UnpackWrite", impl.UnpackWrite(impl.PackWrite(w).List), w)
			wantWrite(t, "ParseWrite", impl.ParseWrite(impl.WriteText(w).Text), w)
		}
	}
	for part := int64(-impl.MaxPart); part <= impl.MaxPart; part++ {
		for _, w := range []impl.Write{putOf(3, 2, 1, part, 0, 0), putOf(3, 2, 1, 7, part, -7), putOf(3, 2, 1, -1000, -1000, part)} {
			wantWrite(t, "UnpackWrite", impl.UnpackWrite(impl.PackWrite(w).List), w)
			wantWrite(t, "ParseWrite", impl.ParseWrite(impl.WriteText(w).Text), w)
		}
	}
}

// P4: a drop that is read back has no Vec, and a put of 0,0,0 has one.
func TestDropsHaveNoVector(t *testing.T) {
	empty := dropOf(5, 6, 7)
	empty.Vec = []int64{}
	for _, w := range []impl.Write{dropOf(5, 6, 7), empty} {
		wantList(t, "PackWrite", impl.PackWrite(w), []int64{2, 5, 6, 7, 0, 0, 0, 96})
		if got := impl.WriteText(w); got != (impl.TextResult{Text: "drop 5 by 6 7"}) {
			t.Error(got)
		}
	}
	for _, got := range []impl.WriteResult{impl.UnpackWrite([]int64{2, 5, 6, 7, 0, 0, 0, 96}), impl.ParseWrite("drop 5 by 6 7")} {
		if got.Code != impl.OK || len(got.Write.Vec) != 0 {
			t.Errorf("a drop is read back as %+v", got)
		}
	}
	for _, got := range []impl.WriteResult{impl.UnpackWrite([]int64{1, 5, 6, 7, 0, 0, 0, 95}), impl.ParseWrite("put 5 0,0,0 by 6 7")} {
		if got.Code != impl.OK || !slices.Equal(got.Write.Vec, []int64{0, 0, 0}) {
			t.Errorf("a put of 0,0,0 is read back as %+v", got)
		}
	}
}

// otherWrites are all that differ from w in one thing alone, with and without a fault.
func otherWrites(w impl.Write) []impl.Write {
	var list []impl.Write
	for _, step := range []int64{1, -1, 2, 997, 1 << 40} {
		for field := range 4 {
			other := w
			*[]*int64{&other.Kind, &other.Id, &other.Session, &other.Seq}[field] += step
			list = append(list, other)
		}
		for place := range w.Vec {
			other := w
			other.Vec = slices.Clone(w.Vec)
			other.Vec[place] += step
			list = append(list, other)
		}
	}
	longer, none := w, w
	longer.Vec = append(slices.Clone(w.Vec), 0)
	list = append(list, longer)
	if len(w.Vec) > 0 {
		none.Vec = nil
		shorter := w
		shorter.Vec = slices.Clone(w.Vec[1:])
		list = append(list, none, shorter)
	}
	return list
}

func TestSameWritesOfOne(t *testing.T) {
	wrong := impl.Write{Kind: math.MinInt64, Id: math.MaxInt64, Vec: []int64{1, 2}, Session: -1, Seq: math.MinInt64}
	for _, w := range []impl.Write{putOf(2, 3, 4, 1, -1, 0), putOf(1, 1, 1, 0, 0, 0), dropOf(2, 3, 4), {}, wrong} {
		same := w
		same.Vec = slices.Clone(w.Vec)
		if !impl.SameWrites([]impl.Write{w}, []impl.Write{same}) {
			t.Errorf("%+v is not the same as itself", w)
		}
		for _, other := range otherWrites(w) {
			if impl.SameWrites([]impl.Write{w}, []impl.Write{other}) || impl.SameWrites([]impl.Write{other}, []impl.Write{w}) {
				t.Errorf("%+v is the same as %+v", w, other)
			}
		}
	}
}

// An empty list and nil are the same, as writes and as a Vec.
func TestSameWritesOfNone(t *testing.T) {
	none, empty := dropOf(1, 2, 3), dropOf(1, 2, 3)
	empty.Vec = []int64{}
	for _, x := range []struct {
		a, b []impl.Write
		want bool
	}{
		{nil, nil, true},
		{nil, []impl.Write{}, true},
		{[]impl.Write{}, nil, true},
		{[]impl.Write{}, []impl.Write{}, true},
		{[]impl.Write{none}, []impl.Write{empty}, true},
		{[]impl.Write{empty}, []impl.Write{none}, true},
		{nil, []impl.Write{{}}, false},
		{[]impl.Write{{}}, nil, false},
		{[]impl.Write{{}}, []impl.Write{{}}, true},
	} {
		if got := impl.SameWrites(x.a, x.b); got != x.want {
			t.Errorf("SameWrites(%+v, %+v) = %v", x.a, x.b, got)
		}
	}
}

// All is the same: how many there are, and their order, and each of them.
func TestSameWritesOfMany(t *testing.T) {
	list := manyWrites()[:300]
	if !impl.SameWrites(list, slices.Clone(list)) || !impl.SameWrites(list, list) {
		t.Error("many are not the same as themselves")
	}
	for at := range list {
		if impl.SameWrites(list, list[:at]) || impl.SameWrites(list[:at], list) || impl.SameWrites(list, slices.Concat(list[:at], list[at+1:])) {
			t.Fatalf("those up to %d are the same as all", at)
		}
		other := slices.Clone(list)
		other[at].Seq += 1000
		if impl.SameWrites(list, other) || impl.SameWrites(other, list) {
			t.Fatalf("an other one at %d is not seen", at)
		}
		if at > 0 {
			turned := slices.Clone(list)
			turned[at-1], turned[at] = turned[at], turned[at-1]
			if impl.SameWrites(list, turned) {
				t.Fatalf("two that are turned at %d are not seen", at)
			}
		}
	}
}
