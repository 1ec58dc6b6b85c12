package tests

import (
	"math/rand"
	"slices"
	"testing"

	"loop.example/g00357/impl"
)

// wordsOf are the words of writes, one behind the other, written out by the test itself.
func wordsOf(writes []impl.Write) []int64 {
	var words []int64
	for _, w := range writes {
		words = append(words, wordsOfWrite(w)...)
	}
	return words
}

// firstWrites are read by the test itself, and by place: those whose words are whole and right, up to the first that are not.
func firstWrites(words []int64) []impl.Write {
	var writes []impl.Write
	for at := 0; at+8 <= len(words); at += 8 {
		w, ok := writeOfWords(words[at : at+8])
		if !ok {
			break
		}
		writes = append(writes, w)
	}
	return writes
}

func logOf(sure, loose []impl.Write) impl.Log {
	return impl.Log{Sure: wordsOf(sure), Loose: wordsOf(loose)}
}

// alikeLog holds no words and no list against each other as the same.
func alikeLog(a, b impl.Log) bool {
	return slices.Equal(a.Sure, b.Sure) && slices.Equal(a.Loose, b.Loose)
}

func wantLog(t *testing.T, what string, got impl.LogResult, sure, loose []impl.Write) {
	t.Helper()
	if want := logOf(sure, loose); got.Code != impl.OK || got.Count != int64(len(sure)+len(loose)) || !alikeLog(got.Log, want) {
		t.Fatalf("%s: %+v, want %d writes in %v", what, got, len(sure)+len(loose), want)
	}
}

// endsInZeros are writes that look whole again if the last words of their torn selves are taken to be 0.
func endsInZeros() []impl.Write {
	var list []impl.Write
	for seq := int64(1); seq <= 999; seq++ {
		for _, w := range []impl.Write{dropOf(1, 1, seq), putOf(1, 1, seq, 0, 0, 0), putOf(1, 1, seq, 5, 0, 0), putOf(1, 1, seq, -5, 6, 0), putOf(1, 1, seq, 5, 6, 7)} {
			if wordsOfWrite(w)[7] == 0 && len(list) < 12 {
				list = append(list, w)
			}
		}
	}
	return list
}

// manyLogs are lists of up to 40 writes: none, one of each kind, at all bounds, and some others; the same ones at each run.
func manyLogs() [][]impl.Write {
	from := rand.New(rand.NewSource(12))
	list := [][]impl.Write{nil, {dropOf(7, 1, 2)}, {putOf(1, 1, 1, 0, 0, 0)}, fewWrites(), endsInZeros(), fullWrites(39), fullWrites(40), slices.Repeat([]impl.Write{dropOf(5, 1, 5)}, 40)}
	for _, n := range []int{1, 2, 3, 4, 5, 8, 13, 39, 40} {
		list = append(list, someWrites(from, n, 60), risingWrites(from, n, 3))
	}
	return list
}

// splitsOf are the numbers of writes that are sure: all of them where there are few.
func splitsOf(writes []impl.Write) []int {
	if len(writes) > 13 {
		return []int{0, 1, len(writes) / 2, len(writes) - 1, len(writes)}
	}
	var splits []int
	for n := 0; n <= len(writes); n++ {
		splits = append(splits, n)
	}
	return splits
}

func TestLogBounds(t *testing.T) {
	if impl.MaxLog != 40 {
		t.Error(impl.MaxLog)
	}
}

func TestLogOfExamples(t *testing.T) {
	put, drop := putOf(2, 3, 4, 1, -1, 0), dropOf(7, 1, 2)
	first := impl.AppendLog(impl.Log{}, put)
	if first.Code != 0 || first.Count != 1 || len(first.Log.Sure) != 0 || !slices.Equal(first.Log.Loose, []int64{1, 2, 3, 4, 1, -1, 0, 48}) {
		t.Error(first)
	}
	second := impl.AppendLog(first.Log, drop)
	if second.Code != 0 || second.Count != 2 || len(second.Log.Sure) != 0 || !slices.Equal(second.Log.Loose, []int64{1, 2, 3, 4, 1, -1, 0, 48, 2, 7, 1, 2, 0, 0, 0, 42}) {
		t.Error(second)
	}
	torn := impl.CrashLog(second.Log, 15)
	if torn.Code != 0 || torn.Count != 1 || len(torn.Log.Loose) != 0 || !slices.Equal(torn.Log.Sure, []int64{1, 2, 3, 4, 1, -1, 0, 48}) {
		t.Error(torn)
	}
	sure := impl.SyncLog(first.Log)
	if sure.Code != 0 || sure.Count != 1 || len(sure.Log.Loose) != 0 || !slices.Equal(sure.Log.Sure, []int64{1, 2, 3, 4, 1, -1, 0, 48}) {
		t.Error(sure)
	}
	third := impl.AppendLog(sure.Log, drop)
	if third.Code != 0 || third.Count != 2 || !slices.Equal(third.Log.Sure, []int64{1, 2, 3, 4, 1, -1, 0, 48}) || !slices.Equal(third.Log.Loose, []int64{2, 7, 1, 2, 0, 0, 0, 42}) {
		t.Error(third)
	}
	wantLog(t, "CrashLog, nothing kept", impl.CrashLog(third.Log, 0), []impl.Write{put}, nil)
	wantLog(t, "CrashLog, all but a word", impl.CrashLog(third.Log, 7), []impl.Write{put}, nil)
	wantLog(t, "CrashLog, all kept", impl.CrashLog(third.Log, 8), []impl.Write{put, drop}, nil)
	wantWrites(t, "ReadLog", impl.ReadLog([]int64{1, 2, 3, 4, 1, -1, 0, 48, 2, 7, 1, 2, 0, 0, 0, 42}), []impl.Write{put, drop})
	wantList(t, "PackAll", impl.PackAll([]impl.Write{drop, put}), []int64{2, 7, 1, 2, 0, 0, 0, 42, 1, 2, 3, 4, 1, -1, 0, 48})
}

// No words, no writes, a log without anything: all of these are fine, and nil is the same as an empty list.
func TestLogsOfNothing(t *testing.T) {
	for _, none := range [][]int64{nil, {}} {
		wantWrites(t, "ReadLog of none", impl.ReadLog(none), nil)
		for _, other := range [][]int64{nil, {}} {
			l := impl.Log{Sure: none, Loose: other}
			if code := impl.LogFault(l); code != impl.OK {
				t.Errorf("LogFault(%v) = %d", l, code)
			}
			wantLog(t, "SyncLog of none", impl.SyncLog(l), nil, nil)
			wantLog(t, "CrashLog of none", impl.CrashLog(l, 0), nil, nil)
			wantLog(t, "AppendLog to none", impl.AppendLog(l, dropOf(7, 1, 2)), nil, []impl.Write{dropOf(7, 1, 2)})
		}
	}
	wantList(t, "PackAll of none", impl.PackAll(nil), nil)
	wantList(t, "PackAll of none", impl.PackAll([]impl.Write{}), nil)
	empty := dropOf(7, 1, 2)
	empty.Vec = []int64{}
	wantList(t, "PackAll of a drop with an empty Vec", impl.PackAll([]impl.Write{empty}), wordsOfWrite(empty))
	wantLog(t, "AppendLog of a drop with an empty Vec", impl.AppendLog(impl.Log{}, empty), nil, []impl.Write{empty})
}

// P9: writes that are packed are read back.
func TestPackedIsReadBack(t *testing.T) {
	for _, writes := range manyLogs() {
		packed := impl.PackAll(writes)
		wantList(t, "PackAll", packed, wordsOf(writes))
		wantWrites(t, "ReadLog of PackAll", impl.ReadLog(packed.List), writes)
	}
	all := manyWrites()
	for len(all) > 0 {
		n := min(len(all), 40)
		packed := impl.PackAll(all[:n])
		wantList(t, "PackAll", packed, wordsOf(all[:n]))
		wantWrites(t, "ReadLog of PackAll", impl.ReadLog(packed.List), all[:n])
		all = all[n:]
	}
}

// P9: words that are cut, wherever it is, leave the first writes; what lies behind the end of the list is not looked at.
func TestWordsThatAreCut(t *testing.T) {
	for _, writes := range manyLogs() {
		words := wordsOf(writes)
		for cut := 0; cut <= len(words); cut++ {
			wantWrites(t, "ReadLog of words that are cut", impl.ReadLog(words[:cut]), writes[:cut/8])
			wantWrites(t, "ReadLog of words that are cut, without room", impl.ReadLog(slices.Clip(words[:cut])), writes[:cut/8])
		}
	}
}

// P9: the words that come behind a cut do not make it whole, be they 0 or those of other writes.
func TestWordsBehindACut(t *testing.T) {
	whole := wordsOfWrite(dropOf(9, 9, 9))
	for _, writes := range [][]impl.Write{endsInZeros(), fewWrites()} {
		words := wordsOf(writes)
		for cut := 0; cut <= len(words); cut++ {
			for _, behind := range [][]int64{make([]int64, 1), make([]int64, 7), make([]int64, 8), make([]int64, 50), whole, slices.Concat(whole, whole), words} {
				torn := slices.Concat(words[:cut], behind)
				wantWrites(t, "ReadLog of words behind a cut", impl.ReadLog(torn), firstWrites(torn))
			}
		}
	}
}

// P9: a write whose words are right but for one ends what is read, be there right ones behind it.
func TestOneWordIsAnother(t *testing.T) {
	for _, writes := range [][]impl.Write{{putOf(2, 3, 4, 1, -1, 0)}, fewWrites(), endsInZeros(), fullWrites(40)} {
		words := wordsOf(writes)
		for at, was := range words {
			for _, by := range []int64{1, -1, 2, 996, 997, -997, 1000, 1 << 32, -1 << 62} {
				words[at] = was + by
				wantWrites(t, "ReadLog, one word being another", impl.ReadLog(words), firstWrites(words))
				if by != 997 && by != -997 {
					wantWrites(t, "ReadLog up to where a word is another", impl.ReadLog(words), writes[:at/8])
				}
			}
			words[at] = was
		}
	}
}

// P9: words that are shifted, gone or too many within are no longer in their places.
func TestWordsOutOfPlace(t *testing.T) {
	for _, writes := range [][]impl.Write{fewWrites(), endsInZeros()} {
		words := wordsOf(writes)
		for at := range words {
			gone := slices.Delete(slices.Clone(words), at, at+1)
			wantWrites(t, "ReadLog, a word gone", impl.ReadLog(gone), firstWrites(gone))
			for _, word := range []int64{0, 1, 2, words[at]} {
				more := slices.Insert(slices.Clone(words), at, word)
				wantWrites(t, "ReadLog, a word more", impl.ReadLog(more), firstWrites(more))
			}
			later := words[at:]
			wantWrites(t, "ReadLog of the last words", impl.ReadLog(later), firstWrites(later))
		}
		for at := range writes {
			wantWrites(t, "ReadLog of the last writes", impl.ReadLog(words[8*at:]), writes[at:])
		}
	}
}

// P9: a log is the writes that stand in it, in order, and Count is how many.
func TestLogsOfManyWrites(t *testing.T) {
	for _, writes := range manyLogs() {
		for _, sure := range splitsOf(writes) {
			l := logOf(writes[:sure], writes[sure:])
			if code := impl.LogFault(l); code != impl.OK {
				t.Fatalf("LogFault of %d and %d writes: %d", sure, len(writes)-sure, code)
			}
			wantWrites(t, "ReadLog of a log", impl.ReadLog(slices.Concat(l.Sure, l.Loose)), writes)
			wantLog(t, "SyncLog", impl.SyncLog(l), writes, nil)
			for _, w := range fewWrites() {
				if len(writes) < 40 {
					wantLog(t, "AppendLog", impl.AppendLog(l, w), writes[:sure], append(slices.Clone(writes[sure:]), w))
				}
			}
		}
	}
}

// P9: behind a crash the first writes are there, all that was sure, and of the others those whose words were kept whole.
func TestCrashesAtEachWord(t *testing.T) {
	for _, writes := range manyLogs() {
		for _, sure := range splitsOf(writes) {
			l := logOf(writes[:sure], writes[sure:])
			for kept := range int64(len(l.Loose) + 1) {
				got := impl.CrashLog(l, kept)
				wantLog(t, "CrashLog", got, writes[:sure+int(kept)/8], nil)
				there := impl.ReadLog(got.Log.Sure).Writes
				if len(there) < sure || !slices.EqualFunc(there, writes[:len(there)], alike) || int64(len(there)) != got.Count {
					t.Fatalf("behind a crash there are %v of %v", there, writes)
				}
			}
		}
	}
}

// A crash that keeps all is a sync, and behind either of them another crash or sync does nothing.
func TestCrashesOfWhatIsSure(t *testing.T) {
	for _, writes := range manyLogs() {
		for _, sure := range splitsOf(writes) {
			l := logOf(writes[:sure], writes[sure:])
			for _, behind := range []impl.Log{impl.SyncLog(l).Log, impl.CrashLog(l, int64(len(l.Loose))).Log} {
				wantLog(t, "CrashLog of what is sure", impl.CrashLog(behind, 0), writes, nil)
				wantLog(t, "SyncLog of what is sure", impl.SyncLog(behind), writes, nil)
			}
		}
	}
}

// P9: more is kept by a crash that keeps more words, and the words of a write that is torn are not there.
func TestCrashesThatKeepMore(t *testing.T) {
	writes := append(endsInZeros(), fewWrites()...)
	l := logOf(writes[:3], writes[3:])
	was := int64(3)
	for kept := range int64(len(l.Loose) + 1) {
		got := impl.CrashLog(l, kept)
		if got.Count < was || got.Count > was+1 || int64(len(got.Log.Sure)) != 8*got.Count || int64(len(got.Log.Sure)) > int64(len(l.Sure))+kept {
			t.Fatalf("with %d words kept there are %d writes, behind %d", kept, got.Count, was)
		}
		was = got.Count
	}
	if was != int64(len(writes)) {
		t.Error("not all of what was kept is there:", was)
	}
}

// P9: logs to which is appended, that are synced and that crash, against two lists of writes.
func TestLogsOfManySteps(t *testing.T) {
	from := rand.New(rand.NewSource(14))
	for range 150 {
		var sure, loose []impl.Write
		l := impl.Log{}
		for range 90 {
			switch from.Intn(8) {
			case 0:
				got := impl.SyncLog(l)
				sure, loose = slices.Concat(sure, loose), nil
				wantLog(t, "SyncLog", got, sure, nil)
				l = got.Log
			case 1:
				kept := from.Int63n(int64(8*len(loose)) + 1)
				got := impl.CrashLog(l, kept)
				sure, loose = slices.Concat(sure, loose[:kept/8]), nil
				wantLog(t, "CrashLog", got, sure, nil)
				l = got.Log
			default:
				w := someWrites(from, 1, 60)[0]
				got := impl.AppendLog(l, w)
				if len(sure)+len(loose) == 40 {
					wantLogCode(t, "AppendLog to a full log", got, impl.ErrMany)
					break
				}
				loose = append(loose, w)
				wantLog(t, "AppendLog", got, sure, loose)
				l = got.Log
			}
		}
	}
}

// A log takes exactly 40 writes, wherever they stand; behind a crash there is room again.
func TestLogsThatFill(t *testing.T) {
	for sync := range 41 {
		l := impl.Log{}
		for i, w := range fullWrites(40) {
			if i == sync {
				l = impl.SyncLog(l).Log
			}
			got := impl.AppendLog(l, w)
			if got.Code != impl.OK || got.Count != int64(i+1) {
				t.Fatalf("the write at %d: %+v", i, got)
			}
			l = got.Log
		}
		if sync == 40 {
			l = impl.SyncLog(l).Log
		}
		wantLog(t, "SyncLog of a full log", impl.SyncLog(l), fullWrites(40), nil)
		wantLogCode(t, "AppendLog to a full log", impl.AppendLog(l, dropOf(1, 1, 1)), impl.ErrMany)
		if sync < 40 {
			torn := impl.CrashLog(l, int64(len(l.Loose))-1)
			wantLog(t, "CrashLog of a full log", torn, fullWrites(39), nil)
			wantLog(t, "AppendLog behind a crash", impl.AppendLog(torn.Log, dropOf(1, 1, 1)), fullWrites(39), []impl.Write{dropOf(1, 1, 1)})
		}
	}
}

// A log does not ask who wrote what: the same write may stand in it many times, and numbers may fall.
func TestLogsDoNotAskSessions(t *testing.T) {
	w := dropOf(7, 1, 2)
	l := impl.Log{}
	for n := int64(1); n <= 40; n++ {
		got := impl.AppendLog(l, w)
		if got.Code != impl.OK || got.Count != n {
			t.Fatalf("the same write, %d times: %+v", n, got)
		}
		l = got.Log
	}
	wantWrites(t, "ReadLog", impl.ReadLog(l.Loose), slices.Repeat([]impl.Write{w}, 40))
	falling := []impl.Write{dropOf(1, 1, 9), dropOf(1, 1, 8), putOf(1, 1, 7, 1, 2, 3)}
	wantWrites(t, "ReadLog", impl.ReadLog(impl.PackAll(falling).List), falling)
}

// P1: what is asked again is answered again.
func TestLogsAnswerAgain(t *testing.T) {
	for _, writes := range manyLogs() {
		l := logOf(writes[:len(writes)/2], writes[len(writes)/2:])
		for range 2 {
			for kept := int64(0); kept <= int64(len(l.Loose)); kept += 5 {
				wantLog(t, "CrashLog", impl.CrashLog(l, kept), writes[:len(writes)/2+int(kept/8)], nil)
			}
			wantLog(t, "SyncLog", impl.SyncLog(l), writes, nil)
		}
	}
}
