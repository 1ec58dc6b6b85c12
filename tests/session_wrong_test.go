package tests

import (
	"slices"
	"testing"

	"loop.example/g00357/impl"
)

func wantOnceCode(t *testing.T, what string, got impl.OnceResult, code int64) {
	t.Helper()
	if got.Code != code || got.New || got.At != 0 || len(got.Writes) != 0 {
		t.Fatalf("%s: %+v, want the code %d alone", what, got, code)
	}
}

func wantWritesCode(t *testing.T, what string, got impl.WritesResult, code int64) {
	t.Helper()
	if got.Code != code || len(got.Writes) != 0 {
		t.Fatalf("%s: %+v, want the code %d alone", what, got, code)
	}
}

// wrongStory has writes with a fault, or too many, and the code that is named first of it.
type wrongStory struct {
	writes []impl.Write
	code   int64
}

// wrongStories have one fault, or several: how many there are is asked ahead of each of them, and of several with a fault the first one is told.
func wrongStories() []wrongStory {
	form, out := impl.Write{Kind: 3, Id: 1, Session: 1, Seq: 1}, putOf(1, 1, 1, 0, 0, 1001)
	list := []wrongStory{
		{fullWrites(201), impl.ErrMany},
		{fullWrites(900), impl.ErrMany},
		{make([]impl.Write, 201), impl.ErrMany},
		{append(fullWrites(200), form), impl.ErrMany},
		{append([]impl.Write{out}, fullWrites(200)...), impl.ErrMany},
		{slices.Repeat([]impl.Write{dropOf(1, 1, 1)}, 201), impl.ErrMany},
		{make([]impl.Write, 200), impl.ErrForm},
		{[]impl.Write{form, out}, impl.ErrForm},
		{[]impl.Write{out, form}, impl.ErrRange},
		{[]impl.Write{dropOf(1, 1, 2), dropOf(1, 1, 1), form}, impl.ErrForm},
	}
	for _, x := range wrongWrites() {
		list = append(list, wrongStory{[]impl.Write{x.w}, x.code}, wrongStory{[]impl.Write{dropOf(1, 1, 1), x.w, form}, x.code})
	}
	for _, place := range []int{0, 1, 100, 198, 199} {
		for _, w := range []impl.Write{form, out} {
			writes := fullWrites(200)
			writes[place] = w
			list = append(list, wrongStory{writes, impl.WriteFault(w)}, wrongStory{writes[:place+1], impl.WriteFault(w)})
		}
	}
	return list
}

func wrongSessions() []int64 {
	return append(outOf(1, 9), 1<<32+1, -1<<32+1)
}

func wrongSeqs() []int64 {
	return append(outOf(1, 999), 1<<32+1, -1<<32+1)
}

// P1: writes with a fault are told ahead of all else, whatever else is wrong.
func TestWritesOfSessionsAreAskedFirst(t *testing.T) {
	for _, x := range wrongStories() {
		for _, session := range append(wrongSessions(), 1, 5, 9) {
			wantIntCode(t, "LastSeq, writes wrong", impl.LastSeq(x.writes, session), x.code)
			wantWritesCode(t, "OfSession, writes wrong", impl.OfSession(x.writes, session), x.code)
			for _, seq := range []int64{0, 1, 999, 1000} {
				wantIntCode(t, "SeenAt, writes wrong", impl.SeenAt(x.writes, session, seq), x.code)
			}
		}
		for _, w := range []impl.Write{{}, putOf(1, 1, 1, 1, 1, 1), dropOf(9, 9, 999), {Kind: 1}, putOf(1, 1, 1, 0, 0, 1001)} {
			wantOnceCode(t, "AppendOnce, writes wrong", impl.AppendOnce(x.writes, w), x.code)
		}
		if impl.OnceRight(x.writes) {
			t.Fatalf("OnceRight(%v) is so", x.writes)
		}
	}
}

// goodStories are asked for nothing: what is wrong then is another argument.
func goodStories() [][]impl.Write {
	return [][]impl.Write{nil, {dropOf(1, 1, 2), putOf(2, 9, 999, 1, 2, 3)}, fullWrites(199), fullWrites(200), slices.Repeat([]impl.Write{dropOf(5, 1, 5)}, 200)}
}

func TestWrongSessions(t *testing.T) {
	for _, writes := range goodStories() {
		for _, session := range wrongSessions() {
			wantIntCode(t, "LastSeq, session wrong", impl.LastSeq(writes, session), impl.ErrRange)
			wantWritesCode(t, "OfSession, session wrong", impl.OfSession(writes, session), impl.ErrRange)
			for _, seq := range append(wrongSeqs(), 1, 2, 999) {
				wantIntCode(t, "SeenAt, session wrong", impl.SeenAt(writes, session, seq), impl.ErrRange)
			}
		}
		for session := int64(1); session <= 9; session++ {
			for _, seq := range wrongSeqs() {
				wantIntCode(t, "SeenAt, seq wrong", impl.SeenAt(writes, session, seq), impl.ErrRange)
			}
		}
	}
}

// The write's own fault is told also where it would be there, or old, or one too many.
func TestWrongWritesAppended(t *testing.T) {
	for _, writes := range goodStories() {
		for _, x := range wrongWrites() {
			wantOnceCode(t, "AppendOnce, write wrong", impl.AppendOnce(writes, x.w), x.code)
			w := x.w
			if w.Session >= 1 && w.Session <= 9 && w.Seq >= 1 && w.Seq <= 998 {
				there := append(slices.Clone(writes[:min(len(writes), 198)]), dropOf(3, w.Session, w.Seq))
				wantOnceCode(t, "AppendOnce, write wrong and there", impl.AppendOnce(there, w), x.code)
				there[len(there)-1].Seq++
				wantOnceCode(t, "AppendOnce, write wrong and old", impl.AppendOnce(there, w), x.code)
			}
		}
	}
}

// What is there is asked ahead of what is old, and that ahead of whether there is room.
func TestOrderOfRefusals(t *testing.T) {
	full := slices.Repeat([]impl.Write{dropOf(5, 1, 5)}, 199)
	full = append(full, dropOf(5, 1, 3))
	wantOnce(t, "there, below the last number, and full", impl.AppendOnce(full, putOf(1, 1, 3, 1, 1, 1)), impl.OnceResult{At: 200, Writes: full})
	wantOnce(t, "there many times", impl.AppendOnce(full, dropOf(1, 1, 5)), impl.OnceResult{At: 1, Writes: full})
	for _, seq := range []int64{1, 2, 4} {
		wantOnceCode(t, "old and full", impl.AppendOnce(full, dropOf(1, 1, seq)), impl.ErrOld)
		wantOnceCode(t, "old", impl.AppendOnce(full[150:], dropOf(1, 1, seq)), impl.ErrOld)
	}
	for _, seq := range []int64{6, 7, 999} {
		wantOnceCode(t, "new and full", impl.AppendOnce(full, dropOf(1, 1, seq)), impl.ErrMany)
		wantOnceCode(t, "of another session and full", impl.AppendOnce(full, dropOf(1, 2, seq)), impl.ErrMany)
	}
	late := []impl.Write{dropOf(5, 1, 9), dropOf(5, 1, 3)}
	wantOnceCode(t, "below the greatest number, above the last one", impl.AppendOnce(late, dropOf(5, 1, 4)), impl.ErrOld)
}

// spareWrites are writes with room behind them and behind each Vec, and all of that room, so that a write behind an end is seen too.
func spareWrites(writes []impl.Write) (list []impl.Write, room []impl.Write, vecs [][]int64) {
	for _, w := range writes {
		vec, all := spareOf(w.Vec)
		w.Vec = vec
		room = append(room, w)
		vecs = append(vecs, all)
	}
	for range 5 {
		room = append(room, dropOf(77, 7, 7))
	}
	return room[:len(writes)], room, vecs
}

func cloneWrites(writes []impl.Write) []impl.Write {
	var list []impl.Write
	for _, w := range writes {
		w.Vec = slices.Clone(w.Vec)
		list = append(list, w)
	}
	return list
}

func scribbleWrites(writes []impl.Write) {
	for i := range writes {
		scribbleInts(writes[i].Vec)
		writes[i] = impl.Write{Kind: 88}
	}
	_ = append(writes, impl.Write{Kind: 87}, impl.Write{Kind: 86})
}

// P1: no argument is changed, not even what lies behind it, nor by a change of the answer.
func TestWritesOfSessionsStay(t *testing.T) {
	stories := manyStories()
	for _, x := range wrongStories() {
		stories = append(stories, x.writes)
	}
	for _, was := range stories {
		writes, room, vecs := spareWrites(was)
		wasRoom, wasVecs := cloneWrites(room), [][]int64{}
		for _, all := range vecs {
			wasVecs = append(wasVecs, slices.Clone(all))
		}
		for _, session := range []int64{0, 1, 2, 9, 10} {
			vec, all := spareOf([]int64{4, 5, 6})
			wasAll := slices.Clone(all)
			for _, seq := range []int64{0, 1, 2, 500, 999} {
				impl.LastSeq(writes, session)
				impl.SeenAt(writes, session, seq)
				impl.OnceRight(writes)
				scribbleWrites(impl.OfSession(writes, session).Writes)
				scribbleWrites(impl.AppendOnce(writes, impl.Write{Kind: 1, Id: 3, Vec: vec, Session: session, Seq: seq}).Writes)
			}
			if !slices.Equal(all, wasAll) {
				t.Fatalf("the Vec of a write was changed to %v", all)
			}
		}
		if !slices.EqualFunc(room, wasRoom, alike) || !slices.EqualFunc(vecs, wasVecs, slices.Equal[[]int64]) {
			t.Fatalf("%v were changed to %v", was, room)
		}
	}
}

// storiesFrom are all answers with writes: of writes that are made anew, and what is called once the answers are there, to change all that was given.
func storiesFrom() (answers map[string][]impl.Write, spoil func()) {
	writes, w := fullWrites(40), putOf(50, 2, 500, 7, 8, 9)
	answers = map[string][]impl.Write{
		"AppendOnce of a new one":                   impl.AppendOnce(writes, w).Writes,
		"AppendOnce of a drop":                      impl.AppendOnce(writes, dropOf(4, 1, 900)).Writes,
		"AppendOnce of one that is there":           impl.AppendOnce(writes, writes[3]).Writes,
		"AppendOnce to none":                        impl.AppendOnce(nil, w).Writes,
		"AppendOnce, the Vec being that of another": impl.AppendOnce(writes, impl.Write{Kind: 1, Id: 1, Vec: writes[0].Vec, Session: 1, Seq: 999}).Writes,
		"OfSession":                                 impl.OfSession(writes, 1).Writes,
		"OfSession of all":                          impl.OfSession([]impl.Write{w, writes[10]}, 2).Writes,
	}
	return answers, func() {
		scribbleWrites(writes)
		scribbleInts(w.Vec)
	}
}

// P1: an answer stays as it is, whatever becomes of the arguments that it came from.
func TestStoriesAreNotShared(t *testing.T) {
	want, _ := storiesFrom()
	got, spoil := storiesFrom()
	spoil()
	for what, writes := range got {
		if len(writes) == 0 || !slices.EqualFunc(writes, want[what], alike) {
			t.Errorf("%s: %v became %v by a change of what was given", what, want[what], writes)
		}
	}
}

// P1: no two lists of one answer share any memory, not even behind their ends.
func TestListsOfOneStoryAreApart(t *testing.T) {
	want, _ := storiesFrom()
	for what := range want {
		for at := range want[what] {
			answers, _ := storiesFrom()
			writes := answers[what]
			scribbleInts(writes[at].Vec)
			writes[at].Vec = want[what][at].Vec
			if !slices.EqualFunc(writes, want[what], alike) {
				t.Fatalf("%s: %v became %v by a change at %d", what, want[what], writes, at)
			}
		}
	}
}

// P1: the lists of an answer are apart also where those that were given were one.
func TestStoriesOfOneVector(t *testing.T) {
	one := []int64{1, 2, 3}
	var writes []impl.Write
	for seq := int64(1); seq <= 10; seq++ {
		writes = append(writes, impl.Write{Kind: 1, Id: seq, Vec: one, Session: 1, Seq: seq})
	}
	more := impl.Write{Kind: 1, Id: 11, Vec: one, Session: 1, Seq: 11}
	for _, got := range [][]impl.Write{impl.AppendOnce(writes, more).Writes, impl.AppendOnce(writes, writes[4]).Writes, impl.OfSession(writes, 1).Writes} {
		if !slices.EqualFunc(got, append(slices.Clone(writes), more)[:len(got)], alike) {
			t.Fatalf("%v, want the first of %v", got, writes)
		}
		for i := range got {
			scribbleInts(got[i].Vec)
			for _, later := range got[i+1:] {
				if !slices.Equal(later.Vec, []int64{1, 2, 3}) {
					t.Fatalf("%v became %v by a change of another one", one, later)
				}
			}
		}
		if !slices.Equal(one, []int64{1, 2, 3}) {
			t.Fatalf("what was given became %v", one)
		}
	}
}

// P1: each answer is new memory, and the same whatever was called or changed ahead of it.
func TestStoriesAreNew(t *testing.T) {
	want, _ := storiesFrom()
	first, _ := storiesFrom()
	kept, _ := storiesFrom()
	for _, writes := range first {
		scribbleWrites(writes)
	}
	impl.AppendOnce(fullWrites(200), dropOf(1, 9, 999))
	impl.AppendOnce(fullWrites(30), dropOf(1, 1, 2))
	again, _ := storiesFrom()
	for what, writes := range want {
		if !slices.EqualFunc(kept[what], writes, alike) || !slices.EqualFunc(again[what], writes, alike) {
			t.Errorf("%s: %v became %v and %v by a change of another answer", what, writes, kept[what], again[what])
		}
	}
}

// P1: two answers from one list stay apart, also where each is one write more.
func TestStoriesThatPart(t *testing.T) {
	writes := impl.AppendOnce(fullWrites(20), dropOf(1, 1, 500)).Writes
	left := impl.AppendOnce(writes, putOf(2, 2, 500, 1, 1, 1)).Writes
	right := impl.AppendOnce(writes, putOf(3, 3, 600, 2, 2, 2)).Writes
	if !alike(left[21], putOf(2, 2, 500, 1, 1, 1)) || !alike(right[21], putOf(3, 3, 600, 2, 2, 2)) || len(writes) != 21 {
		t.Error(left[21], right[21], len(writes))
	}
}

// P1: calls at the same time keep nothing that another one could see (a run with -race tells of it as well).
func TestSessionsBesideOneAnother(t *testing.T) {
	done := make(chan bool)
	shared := fullWrites(60)
	for worker := range int64(8) {
		go func() {
			right := true
			w := putOf(1, 1+worker, 900+worker, worker, -worker, 0)
			for range 200 {
				with := impl.AppendOnce(shared, w)
				again := impl.AppendOnce(with.Writes, w)
				right = right && with.New && with.At == 61 && !again.New && again.At == 61 && impl.SameWrites(with.Writes, again.Writes)
				right = right && impl.LastSeq(with.Writes, 1+worker).Value == 900+worker && impl.OnceRight(with.Writes) && impl.AppendOnce(with.Writes, dropOf(1, 1+worker, 899)).Code == impl.ErrOld
			}
			done <- right
		}()
	}
	for range 8 {
		if !<-done {
			t.Error("a call answered otherwise beside others")
		}
	}
}
