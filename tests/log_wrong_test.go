package tests

import (
	"math"
	"slices"
	"testing"

	"loop.example/g00357/impl"
)

func wantLogCode(t *testing.T, what string, got impl.LogResult, code int64) {
	t.Helper()
	if got.Code != code || got.Count != 0 || len(got.Log.Sure) != 0 || len(got.Log.Loose) != 0 {
		t.Fatalf("%s: %+v, want the code %d alone", what, got, code)
	}
}

// wrongLog is no log, and has the code that is named first of it.
type wrongLog struct {
	l    impl.Log
	code int64
}

// tooLongLogs have more words than there is room for, be they right or not.
func tooLongLogs() []wrongLog {
	var list []wrongLog
	right, zeros := wordsOf(fullWrites(80)), make([]int64, 640)
	for _, words := range [][]int64{right, zeros, slices.Repeat([]int64{math.MinInt64}, 640)} {
		for _, n := range []int{321, 327, 328, 400, 640} {
			for _, sure := range []int{0, 1, 8, 160, 312, 319, 320, 321, n} {
				if sure <= n {
					list = append(list, wrongLog{impl.Log{Sure: words[:sure], Loose: words[sure:n]}, impl.ErrMany})
				}
			}
		}
	}
	return list
}

// tornLogs have words behind the writes of Sure, or of Loose, or of both.
func tornLogs() []wrongLog {
	var list []wrongLog
	few := fewWrites()
	words := wordsOf(few)
	for n := 1; n < len(words); n++ {
		if n%8 == 0 {
			continue
		}
		for _, other := range [][]int64{nil, wordsOfWrite(few[0]), words, words[n:], words[:n], make([]int64, 8)} {
			list = append(list, wrongLog{impl.Log{Sure: words[:n], Loose: other}, impl.ErrText}, wrongLog{impl.Log{Sure: other, Loose: words[:n]}, impl.ErrText})
		}
	}
	for n := 1; n <= 16; n++ {
		list = append(list, wrongLog{impl.Log{Sure: make([]int64, n)}, impl.ErrText}, wrongLog{impl.Log{Loose: make([]int64, n)}, impl.ErrText})
		list = append(list, wrongLog{impl.Log{Sure: slices.Concat(words, make([]int64, n))}, impl.ErrText}, wrongLog{impl.Log{Sure: words, Loose: slices.Concat(words, make([]int64, n))}, impl.ErrText})
	}
	return list
}

// spoiltLogs have a word that is another one, at each place, with right writes ahead of it and behind it.
func spoiltLogs() []wrongLog {
	var list []wrongLog
	words := wordsOf(fewWrites())
	for at := range words {
		for _, by := range []int64{1, -1, 1 << 40} {
			spoilt := slices.Clone(words)
			spoilt[at] += by
			list = append(list, wrongLog{impl.Log{Sure: spoilt}, impl.ErrText}, wrongLog{impl.Log{Loose: spoilt}, impl.ErrText})
			list = append(list, wrongLog{impl.Log{Sure: spoilt, Loose: words}, impl.ErrText}, wrongLog{impl.Log{Sure: words, Loose: spoilt}, impl.ErrText})
		}
	}
	return list
}

// fullTornLogs have just as many words as there is room for, and are torn for all that.
func fullTornLogs() []wrongLog {
	var list []wrongLog
	words := wordsOf(fullWrites(40))
	for _, sure := range []int{1, 7, 9, 155, 313, 319} {
		list = append(list, wrongLog{impl.Log{Sure: words[:sure], Loose: words[sure:]}, impl.ErrText})
	}
	for _, place := range []int{0, 7, 160, 312, 319} {
		spoilt := slices.Clone(words)
		spoilt[place] += 2
		list = append(list, wrongLog{impl.Log{Sure: spoilt}, impl.ErrText}, wrongLog{impl.Log{Loose: spoilt}, impl.ErrText}, wrongLog{impl.Log{Sure: spoilt[:160], Loose: spoilt[160:]}, impl.ErrText})
	}
	return list
}

func wrongLogs() []wrongLog {
	return slices.Concat(tooLongLogs(), tornLogs(), spoiltLogs(), fullTornLogs())
}

// P1: a log with a fault is told ahead of all else, whatever else is wrong.
func TestWrongLogs(t *testing.T) {
	for _, x := range wrongLogs() {
		if code := impl.LogFault(x.l); code != x.code {
			t.Fatalf("LogFault(%v) = %d, want %d", x.l, code, x.code)
		}
		wantLogCode(t, "SyncLog, the log wrong", impl.SyncLog(x.l), x.code)
		for _, kept := range []int64{0, 1, 8, int64(len(x.l.Loose)), int64(len(x.l.Loose)) + 1, -1, math.MinInt64, math.MaxInt64} {
			wantLogCode(t, "CrashLog, the log wrong", impl.CrashLog(x.l, kept), x.code)
		}
		for _, w := range []impl.Write{{}, {Kind: 1}, dropOf(1, 1, 1), putOf(1, 1, 1, 0, 0, 0), putOf(1, 1, 1, 0, 0, 1001)} {
			wantLogCode(t, "AppendLog, the log wrong", impl.AppendLog(x.l, w), x.code)
		}
	}
}

// A write that lies half in Sure and half in Loose is none, though all words together would be read.
func TestWritesOverSureAndLoose(t *testing.T) {
	words := wordsOf(fewWrites())
	for at := range words {
		l := impl.Log{Sure: words[:at], Loose: words[at:]}
		want := int64(impl.ErrText)
		if at%8 == 0 {
			want = impl.OK
		}
		if code := impl.LogFault(l); code != want {
			t.Fatalf("LogFault of writes parted at %d: %d, want %d", at, code, want)
		}
	}
}

// goodLogs have no fault: what is wrong then is another argument.
func goodLogs() []impl.Log {
	return []impl.Log{{}, logOf(fewWrites(), nil), logOf(nil, fewWrites()), logOf(fewWrites(), endsInZeros()), logOf(fullWrites(39), nil), logOf(fullWrites(20), fullWrites(20)), logOf(fullWrites(40), nil), logOf(nil, fullWrites(40))}
}

// The write's own fault is told also where there is no room for it.
func TestWrongWritesOfLogs(t *testing.T) {
	for _, l := range goodLogs() {
		for _, x := range wrongWrites() {
			wantLogCode(t, "AppendLog, write wrong", impl.AppendLog(l, x.w), x.code)
		}
	}
}

func TestFullLogs(t *testing.T) {
	for sure := range int64(41) {
		full := fullWrites(40)
		l := logOf(full[:sure], full[sure:])
		if code := impl.LogFault(l); code != impl.OK {
			t.Fatalf("LogFault of 40 writes, %d sure: %d", sure, code)
		}
		for _, w := range fewWrites() {
			wantLogCode(t, "AppendLog to a full log", impl.AppendLog(l, w), impl.ErrMany)
		}
		wantLogCode(t, "AppendLog of one that is there", impl.AppendLog(l, full[0]), impl.ErrMany)
		wantLogCode(t, "AppendLog of a wrong one to a full log", impl.AppendLog(l, impl.Write{}), impl.ErrForm)
	}
}

// kept counts the words of Loose alone, how many there may be in Sure.
func TestWrongKept(t *testing.T) {
	for _, l := range goodLogs() {
		n := int64(len(l.Loose))
		for _, kept := range []int64{-1, -8, n + 1, n + 8, n + int64(len(l.Sure)) + 1, 321, 1 << 32, -1 << 32, 1<<32 + n, math.MinInt64, math.MaxInt64} {
			wantLogCode(t, "CrashLog, kept wrong", impl.CrashLog(l, kept), impl.ErrRange)
		}
		if got := impl.CrashLog(l, n); got.Code != impl.OK {
			t.Fatalf("CrashLog, all kept: %+v", got)
		}
	}
}

// Too many words are told whatever they are; as many as there is room for are read.
func TestTooManyWords(t *testing.T) {
	right := wordsOf(fullWrites(50))
	for n := 300; n <= 400; n++ {
		for _, words := range [][]int64{right[:n], make([]int64, n), append([]int64{0}, right[:n-1]...)} {
			if n > 320 {
				wantWritesCode(t, "ReadLog of too many words", impl.ReadLog(words), impl.ErrMany)
			} else {
				wantWrites(t, "ReadLog", impl.ReadLog(words), firstWrites(words))
			}
		}
	}
	wantWritesCode(t, "ReadLog of a great many words", impl.ReadLog(make([]int64, 1<<20)), impl.ErrMany)
}

// P1: how many writes there are is asked ahead of each of them, and of several with a fault the first one is told.
func TestWrongWritesPacked(t *testing.T) {
	form, out := impl.Write{Kind: 3, Id: 1, Session: 1, Seq: 1}, putOf(1, 1, 1, 0, 0, 1001)
	for _, writes := range [][]impl.Write{fullWrites(41), fullWrites(200), make([]impl.Write, 41), append(fullWrites(40), form), append([]impl.Write{out}, fullWrites(40)...)} {
		wantListCode(t, "PackAll of too many", impl.PackAll(writes), impl.ErrMany)
	}
	wantListCode(t, "PackAll of zero values", impl.PackAll(make([]impl.Write, 40)), impl.ErrForm)
	wantListCode(t, "PackAll of two wrong ones", impl.PackAll([]impl.Write{form, out}), impl.ErrForm)
	wantListCode(t, "PackAll of two wrong ones", impl.PackAll([]impl.Write{dropOf(1, 1, 1), out, form}), impl.ErrRange)
	for _, x := range wrongWrites() {
		wantListCode(t, "PackAll of a wrong one", impl.PackAll([]impl.Write{x.w}), x.code)
		wantListCode(t, "PackAll of a wrong one behind others", impl.PackAll(append(fewWrites(), x.w)), x.code)
		wantListCode(t, "PackAll of a wrong one ahead of others", impl.PackAll(append([]impl.Write{x.w, form}, fewWrites()...)), x.code)
	}
	for place := range 40 {
		writes := fullWrites(40)
		writes[place] = out
		wantListCode(t, "PackAll, one wrong", impl.PackAll(writes), impl.ErrRange)
		wantListCode(t, "PackAll, the last one wrong", impl.PackAll(writes[:place+1]), impl.ErrRange)
		wantList(t, "PackAll of those ahead", impl.PackAll(writes[:place]), wordsOf(fullWrites(40)[:place]))
	}
}

func cloneLog(l impl.Log) impl.Log {
	return impl.Log{Sure: slices.Clone(l.Sure), Loose: slices.Clone(l.Loose)}
}

// scribbleLog writes over the words of a log, and over all the room behind them.
func scribbleLog(l impl.Log) {
	for _, words := range [][]int64{l.Sure, l.Loose} {
		for room, i := words[:cap(words)], 0; i < len(room); i++ {
			room[i] = 88
		}
	}
}

// P1: no argument is changed, not even what lies behind it, nor by a change of the answer.
func TestLogsStay(t *testing.T) {
	logs := goodLogs()
	for i, x := range wrongLogs() {
		if i%7 == 0 {
			logs = append(logs, x.l)
		}
	}
	for _, was := range logs {
		sure, sureRoom := spareOf(was.Sure)
		loose, looseRoom := spareOf(was.Loose)
		wasSure, wasLoose := slices.Clone(sureRoom), slices.Clone(looseRoom)
		vec, vecRoom := spareOf([]int64{4, 5, 6})
		wasVec := slices.Clone(vecRoom)
		l := impl.Log{Sure: sure, Loose: loose}
		impl.LogFault(l)
		scribbleLog(impl.SyncLog(l).Log)
		for _, id := range []int64{0, 3} {
			scribbleLog(impl.AppendLog(l, impl.Write{Kind: 1, Id: id, Vec: vec, Session: 1, Seq: 1}).Log)
		}
		for kept := int64(-1); kept <= int64(len(loose))+1; kept++ {
			scribbleLog(impl.CrashLog(l, kept).Log)
		}
		scribbleWrites(impl.ReadLog(sure).Writes)
		scribbleWrites(impl.ReadLog(loose).Writes)
		if !slices.Equal(sureRoom, wasSure) || !slices.Equal(looseRoom, wasLoose) || !slices.Equal(vecRoom, wasVec) {
			t.Fatalf("%v was changed to %v and %v, or the Vec to %v", was, sureRoom, looseRoom, vecRoom)
		}
	}
}

// P1: writes that are packed stay, and what lies behind them.
func TestWritesOfLogsStay(t *testing.T) {
	stories := manyLogs()
	for i, x := range wrongStories() {
		if i%5 == 0 {
			stories = append(stories, x.writes)
		}
	}
	for _, was := range stories {
		writes, room, vecs := spareWrites(was)
		wasRoom, wasVecs := cloneWrites(room), [][]int64{}
		for _, all := range vecs {
			wasVecs = append(wasVecs, slices.Clone(all))
		}
		scribbleInts(impl.PackAll(writes).List)
		if !slices.EqualFunc(room, wasRoom, alike) || !slices.EqualFunc(vecs, wasVecs, slices.Equal[[]int64]) {
			t.Fatalf("%v were changed to %v", was, room)
		}
	}
}

// logsFrom are all answers with a log: of arguments that are made anew, and what is called once the answers are there, to change all that was given.
func logsFrom() (answers map[string]impl.Log, spoil func()) {
	l, w := logOf(fewWrites(), endsInZeros()), putOf(5, 6, 7, 8, 9, 10)
	sure, loose := logOf(fewWrites(), nil), logOf(nil, fewWrites())
	packed := fewWrites()
	answers = map[string]impl.Log{
		"AppendLog":                      impl.AppendLog(l, w).Log,
		"AppendLog of a drop":            impl.AppendLog(l, dropOf(1, 1, 1)).Log,
		"AppendLog without Sure":         impl.AppendLog(loose, w).Log,
		"AppendLog without Loose":        impl.AppendLog(sure, w).Log,
		"AppendLog, Sure as Loose":       impl.AppendLog(impl.Log{Sure: sure.Sure, Loose: sure.Sure}, w).Log,
		"SyncLog":                        impl.SyncLog(l).Log,
		"SyncLog without Sure":           impl.SyncLog(loose).Log,
		"SyncLog without Loose":          impl.SyncLog(sure).Log,
		"CrashLog, nothing kept":         impl.CrashLog(l, 0).Log,
		"CrashLog, kept within a write":  impl.CrashLog(l, 13).Log,
		"CrashLog, kept up to a write":   impl.CrashLog(l, 16).Log,
		"CrashLog, all kept":             impl.CrashLog(l, int64(len(l.Loose))).Log,
		"CrashLog without Loose":         impl.CrashLog(sure, 0).Log,
		"CrashLog without Sure":          impl.CrashLog(loose, 9).Log,
		"PackAll":                        {Sure: impl.PackAll(packed).List},
		"ReadLog, packed again":          {Sure: wordsOf(impl.ReadLog(l.Sure).Writes)},
		"AppendLog, with room behind it": impl.AppendLog(impl.Log{Sure: sure.Sure[:8], Loose: sure.Sure[8:16]}, w).Log,
	}
	return answers, func() {
		for _, given := range []impl.Log{l, sure, loose} {
			scribbleLog(given)
		}
		scribbleInts(w.Vec)
		scribbleWrites(packed)
	}
}

// P1: an answer stays as it is, whatever becomes of the arguments that it came from.
func TestLogsAreNotShared(t *testing.T) {
	want, _ := logsFrom()
	got, spoil := logsFrom()
	spoil()
	for what, l := range got {
		if len(l.Sure)+len(l.Loose) == 0 || !alikeLog(l, want[what]) {
			t.Errorf("%s: %v became %v by a change of what was given", what, want[what], l)
		}
	}
}

// P1: Sure and Loose of one answer share no memory, not even behind their ends.
func TestListsOfOneLogAreApart(t *testing.T) {
	want, _ := logsFrom()
	for what := range want {
		answers, _ := logsFrom()
		scribbleLog(impl.Log{Sure: answers[what].Sure})
		if !slices.Equal(answers[what].Loose, want[what].Loose) {
			t.Errorf("%s: Loose became %v by a change of Sure", what, answers[what].Loose)
		}
		answers, _ = logsFrom()
		scribbleLog(impl.Log{Loose: answers[what].Loose})
		if !slices.Equal(answers[what].Sure, want[what].Sure) {
			t.Errorf("%s: Sure became %v by a change of Loose", what, answers[what].Sure)
		}
	}
}

// P1: the vectors of the writes that are read are new, and apart from one another.
func TestWritesOfOneLogAreApart(t *testing.T) {
	same := slices.Repeat([]impl.Write{putOf(1, 2, 3, 4, 5, 6)}, 10)
	words := wordsOf(same)
	for at := range same {
		got := impl.ReadLog(words).Writes
		for room, i := got[at].Vec[:cap(got[at].Vec)], 0; i < len(room); i++ {
			room[i] = 88
		}
		got[at].Vec = []int64{4, 5, 6}
		wantWrites(t, "ReadLog, one Vec being changed", impl.WritesResult{Writes: got}, same)
	}
	got := impl.ReadLog(words)
	scribbleInts(words)
	wantWrites(t, "ReadLog, the words being changed", got, same)
}

// P1: each answer is new memory, and the same whatever was called or changed ahead of it.
func TestLogsAreNew(t *testing.T) {
	want, _ := logsFrom()
	first, _ := logsFrom()
	kept, _ := logsFrom()
	for _, l := range first {
		scribbleLog(l)
	}
	impl.AppendLog(logOf(nil, fullWrites(40)), dropOf(1, 1, 1))
	impl.CrashLog(logOf(nil, fullWrites(40)), 77)
	impl.PackAll(make([]impl.Write, 3))
	again, _ := logsFrom()
	for what, l := range want {
		if !alikeLog(kept[what], l) || !alikeLog(again[what], l) {
			t.Errorf("%s: %v became %v and %v by a change of another answer", what, l, kept[what], again[what])
		}
	}
}

// P1: two answers from one log stay apart, also where each is one write more.
func TestLogsThatPart(t *testing.T) {
	l := impl.AppendLog(logOf(fewWrites(), nil), dropOf(1, 1, 1)).Log
	was := cloneLog(l)
	left, right := impl.AppendLog(l, putOf(2, 2, 2, 2, 2, 2)), impl.AppendLog(l, putOf(3, 3, 3, 3, 3, 3))
	wantLog(t, "AppendLog", left, fewWrites(), []impl.Write{dropOf(1, 1, 1), putOf(2, 2, 2, 2, 2, 2)})
	wantLog(t, "AppendLog", right, fewWrites(), []impl.Write{dropOf(1, 1, 1), putOf(3, 3, 3, 3, 3, 3)})
	if !alikeLog(l, was) {
		t.Errorf("%v became %v", was, l)
	}
}

// P1: calls at the same time keep nothing that another one could see (a run with -race tells of it as well).
func TestLogsBesideOneAnother(t *testing.T) {
	done := make(chan bool)
	shared := logOf(fullWrites(20), fullWrites(10))
	all := append(fullWrites(20), fullWrites(10)...)
	for worker := range int64(8) {
		w := putOf(1+worker, 1+worker, 1+worker, worker, -worker, 0)
		with := logOf(fullWrites(20), append(fullWrites(10), w))
		torn := logOf(all[:20+worker], nil)
		go func() {
			right := true
			for range 100 {
				got := impl.AppendLog(shared, w)
				right = right && got.Count == 31 && alikeLog(got.Log, with) && alikeLog(impl.CrashLog(got.Log, 8*worker+5).Log, torn)
				right = right && slices.EqualFunc(impl.ReadLog(impl.SyncLog(shared).Log.Sure).Writes, all, alike)
				right = right && slices.Equal(impl.PackAll(all).List, wordsOf(all))
			}
			done <- right
		}()
	}
	for range 8 {
		if !<-done {
			t.Error("a call answered otherwise beside others")
		}
	}
}
