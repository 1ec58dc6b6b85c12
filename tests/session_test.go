package tests

import (
	"math/rand"
	"slices"
	"testing"

	"loop.example/g00357/impl"
)

func wantWrites(t *testing.T, what string, got impl.WritesResult, want []impl.Write) {
	t.Helper()
	if got.Code != impl.OK || !slices.EqualFunc(got.Writes, want, alike) {
		t.Fatalf("%s: %+v, want %+v", what, got, want)
	}
}

func alikeOnce(a, b impl.OnceResult) bool {
	return a.Code == b.Code && a.New == b.New && a.At == b.At && slices.EqualFunc(a.Writes, b.Writes, alike)
}

func wantOnce(t *testing.T, what string, got, want impl.OnceResult) {
	t.Helper()
	if !alikeOnce(got, want) {
		t.Fatalf("%s: %+v, want %+v", what, got, want)
	}
}

// lastOf looks at all writes, not at what was seen.
func lastOf(writes []impl.Write, session int64) int64 {
	last := int64(0)
	for _, w := range writes {
		if w.Session == session && w.Seq > last {
			last = w.Seq
		}
	}
	return last
}

// seenOf is 0 where none is so.
func seenOf(writes []impl.Write, session, seq int64) int64 {
	for i, w := range writes {
		if w.Session == session && w.Seq == seq {
			return int64(i + 1)
		}
	}
	return 0
}

func ofSession(writes []impl.Write, session int64) []impl.Write {
	return slices.DeleteFunc(slices.Clone(writes), func(w impl.Write) bool { return w.Session != session })
}

// onceOf is what AppendOnce tells of writes and a write that have no fault.
func onceOf(writes []impl.Write, w impl.Write) impl.OnceResult {
	if at := seenOf(writes, w.Session, w.Seq); at > 0 {
		return impl.OnceResult{At: at, Writes: writes}
	}
	if w.Seq < lastOf(writes, w.Session) {
		return impl.OnceResult{Code: impl.ErrOld}
	}
	if len(writes) == 200 {
		return impl.OnceResult{Code: impl.ErrMany}
	}
	return impl.OnceResult{New: true, At: int64(len(writes) + 1), Writes: append(slices.Clone(writes), w)}
}

// risesOf holds each pair of writes against each other.
func risesOf(writes []impl.Write) bool {
	for i, w := range writes {
		for _, later := range writes[i+1:] {
			if w.Session == later.Session && w.Seq >= later.Seq {
				return false
			}
		}
	}
	return true
}

// risingWrites are n writes whose sessions skip numbers now and then.
func risingWrites(from *rand.Rand, n int, sessions int64) []impl.Write {
	var last [10]int64
	list := someWrites(from, n, 60)
	for i := range list {
		session := 1 + from.Int63n(sessions)
		last[session] += 1 + from.Int63n(4)
		list[i].Session, list[i].Seq = session, last[session]
	}
	return list
}

// manyStories are lists in which sessions rise, and others in which numbers come twice, or late; the same ones at each run.
func manyStories() [][]impl.Write {
	from := rand.New(rand.NewSource(10))
	list := [][]impl.Write{nil, {dropOf(5, 1, 1)}, {putOf(5, 9, 999, 1, 2, 3)}, fewWrites(), fullWrites(199), fullWrites(200)}
	for _, n := range []int{1, 2, 3, 5, 9, 20, 60, 199, 200} {
		for _, sessions := range []int64{1, 2, 9} {
			list = append(list, risingWrites(from, n, sessions))
			loose := someWrites(from, n, 60)
			for i := range loose {
				loose[i].Session, loose[i].Seq = 1+from.Int63n(sessions), 1+from.Int63n(int64(n)+2)
			}
			list = append(list, loose, someWrites(from, n, 60))
		}
	}
	return list
}

func TestLastSeqOfExamples(t *testing.T) {
	writes := []impl.Write{putOf(1, 1, 1, 0, 0, 0), dropOf(2, 1, 3), putOf(3, 2, 999, 0, 0, 0), putOf(4, 9, 7, 1, 1, 1), dropOf(4, 9, 5)}
	for session, want := range []int64{1: 3, 2: 999, 3: 0, 4: 0, 8: 0, 9: 7} {
		if session > 0 {
			wantInt(t, "LastSeq", impl.LastSeq(writes, int64(session)), want)
			wantInt(t, "LastSeq of none", impl.LastSeq(nil, int64(session)), 0)
			wantInt(t, "LastSeq of an empty list", impl.LastSeq([]impl.Write{}, int64(session)), 0)
		}
	}
}

func TestSeenAtOfExamples(t *testing.T) {
	writes := []impl.Write{putOf(1, 1, 1, 0, 0, 0), dropOf(2, 2, 1), putOf(3, 1, 3, 0, 0, 0), putOf(4, 1, 3, 1, 1, 1), dropOf(4, 9, 999), dropOf(5, 1, 2)}
	for _, x := range []struct{ session, seq, want int64 }{{1, 1, 1}, {2, 1, 2}, {1, 3, 3}, {9, 999, 5}, {1, 2, 6}} {
		wantInt(t, "SeenAt", impl.SeenAt(writes, x.session, x.seq), x.want)
	}
	for _, x := range []struct{ session, seq int64 }{{1, 4}, {1, 999}, {2, 2}, {2, 3}, {3, 1}, {9, 1}, {9, 998}} {
		wantIntCode(t, "SeenAt of none", impl.SeenAt(writes, x.session, x.seq), impl.ErrNone)
		wantIntCode(t, "SeenAt in no writes", impl.SeenAt(nil, x.session, x.seq), impl.ErrNone)
	}
}

func TestAppendOnceOfExamples(t *testing.T) {
	a, b, c := putOf(1, 1, 1, 1, 0, 0), putOf(2, 1, 3, 2, 0, 0), dropOf(1, 2, 1)
	wantOnce(t, "the first one", impl.AppendOnce(nil, b), impl.OnceResult{New: true, At: 1, Writes: []impl.Write{b}})
	wantOnce(t, "the first of another session", impl.AppendOnce([]impl.Write{a, b}, c), impl.OnceResult{New: true, At: 3, Writes: []impl.Write{a, b, c}})
	wantOnce(t, "the next number", impl.AppendOnce([]impl.Write{a}, dropOf(1, 1, 2)), impl.OnceResult{New: true, At: 2, Writes: []impl.Write{a, dropOf(1, 1, 2)}})
	wantOnce(t, "a number that skips", impl.AppendOnce([]impl.Write{a}, b), impl.OnceResult{New: true, At: 2, Writes: []impl.Write{a, b}})
	wantOnce(t, "the first one again", impl.AppendOnce([]impl.Write{a, b, c}, a), impl.OnceResult{At: 1, Writes: []impl.Write{a, b, c}})
	wantOnce(t, "the last one again", impl.AppendOnce([]impl.Write{a, b, c}, c), impl.OnceResult{At: 3, Writes: []impl.Write{a, b, c}})
	wantOnce(t, "one that was skipped", impl.AppendOnce([]impl.Write{a, b, c}, putOf(2, 1, 2, 2, 0, 0)), impl.OnceResult{Code: impl.ErrOld})
	wantOnce(t, "one that another session skipped", impl.AppendOnce([]impl.Write{a, b, c}, putOf(2, 2, 2, 2, 0, 0)), impl.OnceResult{New: true, At: 4, Writes: []impl.Write{a, b, c, putOf(2, 2, 2, 2, 0, 0)}})
}

// A list that is full has room for none, but a write that is there is told all the same; and what is old is old.
func TestAppendOnceToFullLists(t *testing.T) {
	from := rand.New(rand.NewSource(11))
	for _, sessions := range []int64{1, 2, 8} {
		full := risingWrites(from, 200, sessions)
		for i, w := range full {
			wantOnce(t, "one of 200 again", impl.AppendOnce(full, w), impl.OnceResult{At: int64(i + 1), Writes: full})
		}
		for session := int64(1); session <= 9; session++ {
			last := lastOf(full, session)
			for seq := int64(1); seq <= min(last+3, 999); seq++ {
				got := impl.AppendOnce(full, dropOf(3, session, seq))
				switch {
				case seenOf(full, session, seq) > 0:
					wantOnce(t, "one of 200 again, as a drop", got, impl.OnceResult{At: seenOf(full, session, seq), Writes: full})
				case seq < last:
					wantOnce(t, "an old one to 200", got, impl.OnceResult{Code: impl.ErrOld})
				default:
					wantOnce(t, "one more than 200", got, impl.OnceResult{Code: impl.ErrMany})
				}
			}
		}
		fewer := full[:199]
		more := putOf(7, 9, 1, 1, 2, 3)
		wantOnce(t, "the 200th one", impl.AppendOnce(fewer, more), impl.OnceResult{New: true, At: 200, Writes: append(slices.Clone(fewer), more)})
	}
}

func TestSessionsOfManyStories(t *testing.T) {
	for _, writes := range manyStories() {
		for session := int64(1); session <= 9; session++ {
			wantInt(t, "LastSeq", impl.LastSeq(writes, session), lastOf(writes, session))
			wantWrites(t, "OfSession", impl.OfSession(writes, session), ofSession(writes, session))
			for _, seq := range []int64{1, 2, 3, 4, 5, 10, 50, 100, 200, 500, 998, 999, max(lastOf(writes, session), 1)} {
				at := seenOf(writes, session, seq)
				if at == 0 {
					wantIntCode(t, "SeenAt of none", impl.SeenAt(writes, session, seq), impl.ErrNone)
				} else {
					wantInt(t, "SeenAt", impl.SeenAt(writes, session, seq), at)
				}
				w := putOf(8, session, seq, 3, 2, 1)
				wantOnce(t, "AppendOnce", impl.AppendOnce(writes, w), onceOf(writes, w))
			}
		}
		for _, w := range writes {
			wantInt(t, "SeenAt of one that is there", impl.SeenAt(writes, w.Session, w.Seq), seenOf(writes, w.Session, w.Seq))
		}
		if got := impl.OnceRight(writes); got != risesOf(writes) {
			t.Fatalf("OnceRight(%v) = %v", writes, got)
		}
	}
}

// Every number of every session is a number of its own.
func TestSeenAtOfAllNumbers(t *testing.T) {
	writes := []impl.Write{dropOf(1, 1, 12), dropOf(2, 1, 2), dropOf(3, 2, 1), dropOf(4, 9, 999), dropOf(5, 1, 999), dropOf(6, 9, 1), dropOf(7, 2, 112), dropOf(8, 2, 12)}
	for session := int64(1); session <= 9; session++ {
		for seq := int64(1); seq <= 999; seq++ {
			if at := seenOf(writes, session, seq); at > 0 {
				wantInt(t, "SeenAt", impl.SeenAt(writes, session, seq), at)
			} else {
				wantIntCode(t, "SeenAt of none", impl.SeenAt(writes, session, seq), impl.ErrNone)
			}
		}
	}
}

// otherOfTicket are writes of the same session and number that ask for something else.
func otherOfTicket(w impl.Write) []impl.Write {
	return []impl.Write{w, putOf(w.Id, w.Session, w.Seq, 9, 9, 9), putOf(999, w.Session, w.Seq, 0, 0, 0), dropOf(w.Id, w.Session, w.Seq), dropOf(1, w.Session, w.Seq)}
}

// P6: what is asked twice is done once: at once, or behind others, whatever it asks for then.
func TestAskedTwiceIsDoneOnce(t *testing.T) {
	from := rand.New(rand.NewSource(12))
	for _, sessions := range []int64{1, 3, 9} {
		var writes []impl.Write
		for _, w := range risingWrites(from, 200, sessions) {
			first := impl.AppendOnce(writes, w)
			wantOnce(t, "AppendOnce", first, impl.OnceResult{New: true, At: int64(len(writes) + 1), Writes: append(slices.Clone(writes), w)})
			writes = first.Writes
			for _, other := range otherOfTicket(w) {
				wantOnce(t, "AppendOnce at once again", impl.AppendOnce(writes, other), impl.OnceResult{At: first.At, Writes: writes})
			}
			early := writes[from.Intn(len(writes))]
			for _, other := range otherOfTicket(early) {
				got := impl.AppendOnce(writes, other)
				wantOnce(t, "AppendOnce later again", got, impl.OnceResult{At: seenOf(writes, early.Session, early.Seq), Writes: writes})
				wantTable(t, "TableOf what was asked twice", impl.TableOf(got.Writes), impl.TableOf(writes).Items)
			}
			if !impl.OnceRight(writes) {
				t.Fatalf("OnceRight(%v) is not so", writes)
			}
		}
	}
}

// P6: a client that asks in any order, and each number several times, finds each at most once.
func TestNoneIsTwiceThere(t *testing.T) {
	from := rand.New(rand.NewSource(13))
	for range 30 {
		var writes []impl.Write
		for range 300 {
			w := putOf(1+from.Int63n(9), 1+from.Int63n(3), 1+from.Int63n(70), from.Int63n(9), 0, 0)
			want := onceOf(writes, w)
			got := impl.AppendOnce(writes, w)
			wantOnce(t, "AppendOnce", got, want)
			if got.Code == impl.OK {
				writes = got.Writes
				wantInt(t, "SeenAt as At", impl.SeenAt(writes, w.Session, w.Seq), got.At)
			}
			if !impl.OnceRight(writes) || !risesOf(writes) {
				t.Fatalf("OnceRight(%v) is not so", writes)
			}
		}
	}
}

// P6: what is new is told with the others ahead of it, as they were, and LastSeq and SeenAt know it.
func TestWhatIsNewIsTheLastOne(t *testing.T) {
	for _, writes := range manyStories() {
		for session := int64(1); session <= 9; session++ {
			last := impl.LastSeq(writes, session).Value
			for _, seq := range []int64{last + 1, last + 2, 999} {
				if seq > 999 || seq <= last || len(writes) == 200 {
					continue
				}
				w := putOf(4, session, seq, 7, -7, 0)
				got := impl.AppendOnce(writes, w)
				wantOnce(t, "AppendOnce", got, impl.OnceResult{New: true, At: int64(len(writes) + 1), Writes: append(slices.Clone(writes), w)})
				wantInt(t, "LastSeq behind it", impl.LastSeq(got.Writes, session), seq)
				wantInt(t, "SeenAt of it", impl.SeenAt(got.Writes, session, seq), got.At)
				wantWrites(t, "OfSession behind it", impl.OfSession(got.Writes, session), append(ofSession(writes, session), w))
				if impl.OnceRight(got.Writes) != impl.OnceRight(writes) {
					t.Fatalf("OnceRight of %v turns by one that is new", writes)
				}
			}
		}
	}
}

// All stories of up to five of the writes at which something turns, right or not.
func TestAllShortStoriesOfSessions(t *testing.T) {
	steps := []impl.Write{dropOf(1, 1, 1), putOf(1, 1, 2, 1, 1, 1), dropOf(2, 1, 3), putOf(1, 2, 1, 2, 2, 2), dropOf(1, 2, 2)}
	stories := [][]impl.Write{nil}
	for at := 0; at < len(stories); at++ {
		story := stories[at]
		if got := impl.OnceRight(story); got != risesOf(story) {
			t.Fatalf("OnceRight(%v) = %v", story, got)
		}
		for session := int64(1); session <= 3; session++ {
			wantInt(t, "LastSeq", impl.LastSeq(story, session), lastOf(story, session))
			wantWrites(t, "OfSession", impl.OfSession(story, session), ofSession(story, session))
		}
		for _, w := range append(slices.Clone(steps), dropOf(9, 2, 3), dropOf(9, 3, 1)) {
			wantOnce(t, "AppendOnce", impl.AppendOnce(story, w), onceOf(story, w))
		}
		if len(story) < 5 {
			for _, w := range steps {
				stories = append(stories, append(slices.Clone(story), w))
			}
		}
	}
}

func TestOnceRightOfExamples(t *testing.T) {
	for _, x := range []struct {
		writes []impl.Write
		want   bool
	}{
		{nil, true},
		{[]impl.Write{}, true},
		{[]impl.Write{dropOf(1, 1, 1)}, true},
		{[]impl.Write{dropOf(1, 1, 999)}, true},
		{[]impl.Write{dropOf(1, 1, 1), dropOf(1, 1, 2)}, true},
		{[]impl.Write{dropOf(1, 1, 1), dropOf(1, 1, 999)}, true},
		{[]impl.Write{dropOf(1, 1, 5), dropOf(1, 2, 5), dropOf(1, 9, 5)}, true},
		{[]impl.Write{dropOf(1, 2, 5), dropOf(1, 1, 4), dropOf(1, 2, 6), dropOf(1, 1, 5)}, true},
		{[]impl.Write{dropOf(1, 1, 1), dropOf(1, 1, 1)}, false},
		{[]impl.Write{dropOf(1, 1, 1), putOf(2, 1, 1, 0, 0, 0)}, false},
		{[]impl.Write{dropOf(1, 1, 2), dropOf(1, 1, 1)}, false},
		{[]impl.Write{dropOf(1, 9, 2), dropOf(1, 1, 7), dropOf(1, 9, 2)}, false},
		{[]impl.Write{dropOf(1, 9, 2), dropOf(1, 9, 7), dropOf(1, 9, 3)}, false},
		{[]impl.Write{dropOf(1, 9, 999), dropOf(1, 9, 1)}, false},
	} {
		if got := impl.OnceRight(x.writes); got != x.want {
			t.Errorf("OnceRight(%v) = %v", x.writes, got)
		}
	}
}

// One write that does not rise is seen wherever it stands.
func TestOnceRightOfLongLists(t *testing.T) {
	full := fullWrites(200)
	if !impl.OnceRight(full) {
		t.Fatal("200 writes that rise are not right")
	}
	for at := 9; at < len(full); at++ {
		for _, seq := range []int64{full[at-9].Seq, full[at-9].Seq - 1, 1} {
			other := slices.Clone(full)
			other[at].Seq = seq
			if seq > 0 && impl.OnceRight(other) {
				t.Fatalf("at %d the number %d is not seen", at, seq)
			}
		}
	}
}

// All sessions together are all writes, and each is right by itself just if all are.
func TestSessionsAreAllOfIt(t *testing.T) {
	for _, writes := range manyStories() {
		count, right := 0, true
		for session := int64(1); session <= 9; session++ {
			got := impl.OfSession(writes, session)
			count += len(got.Writes)
			right = right && impl.OnceRight(got.Writes)
			wantInt(t, "LastSeq of a session alone", impl.LastSeq(got.Writes, session), impl.LastSeq(writes, session).Value)
		}
		if count != len(writes) || right != impl.OnceRight(writes) {
			t.Fatalf("%v: %d of all sessions, right %v", writes, count, right)
		}
	}
}

func TestOfSessionWithoutWrites(t *testing.T) {
	for session := int64(1); session <= 9; session++ {
		wantWrites(t, "OfSession of none", impl.OfSession(nil, session), nil)
		wantWrites(t, "OfSession of another one", impl.OfSession([]impl.Write{dropOf(1, session%9+1, session)}, session), nil)
	}
}

// A drop with an empty Vec is a drop as any other one.
func TestSessionsOfEmptyVecs(t *testing.T) {
	empty := dropOf(4, 1, 1)
	empty.Vec = []int64{}
	wantOnce(t, "AppendOnce of it", impl.AppendOnce(nil, empty), impl.OnceResult{New: true, At: 1, Writes: []impl.Write{dropOf(4, 1, 1)}})
	wantOnce(t, "AppendOnce behind it", impl.AppendOnce([]impl.Write{empty}, dropOf(4, 1, 2)), impl.OnceResult{New: true, At: 2, Writes: []impl.Write{empty, dropOf(4, 1, 2)}})
	wantWrites(t, "OfSession of it", impl.OfSession([]impl.Write{empty}, 1), []impl.Write{empty})
}

// Nothing of how a map is held is to be seen: each call answers the same.
func TestSessionsAnswerAgain(t *testing.T) {
	for _, writes := range manyStories()[len(manyStories())-6:] {
		w := putOf(8, 5, 999, 3, 2, 1)
		want := impl.AppendOnce(writes, w)
		for range 50 {
			wantOnce(t, "AppendOnce again", impl.AppendOnce(writes, w), want)
			wantWrites(t, "OfSession again", impl.OfSession(writes, 1), ofSession(writes, 1))
			wantInt(t, "LastSeq again", impl.LastSeq(writes, 1), lastOf(writes, 1))
		}
	}
}
