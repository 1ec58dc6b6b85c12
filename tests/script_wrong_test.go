package tests

import (
	"fmt"
	"math"
	"reflect"
	"slices"
	"strings"
	"testing"

	"loop.example/g00357/impl"
)

// P1: what is wrong with a world is told ahead of a line or a text that cannot be read, and all else is zero.
func TestWrongWorldsOfScripts(t *testing.T) {
	for _, x := range wrongWorlds() {
		wantTextCode(t, "WorldText of a wrong world", impl.WorldText(x.w), x.code)
		for _, text := range []string{"show", "", "wink", "sync 9\n"} {
			wantScriptCode(t, "StepScript of a wrong world", impl.StepScript(x.w, text), x.code)
			wantScriptCode(t, "RunScript of a wrong world", impl.RunScript(x.w, text), x.code)
		}
	}
	texts := []string{" ", "\n", "show\n", "show\nshow", "ask put 1 0,0,0 by 1 1", "ask put", "find 1 0,0,0 1", "find 1 0,0 1", "tick 01", "drain", "read 9 9", strings.Repeat("x", 1501), strings.Repeat("\n", 61), strings.Repeat("tick 0\n", 61)}
	for _, one := range lineForms() {
		texts = append(texts, lineOf(one.form, 1, 1), lineOf(one.form, 9, 9)+" 9")
	}
	for _, x := range fewWrongWorlds() {
		for _, text := range texts {
			wantScriptCode(t, "StepScript of a wrong world", impl.StepScript(x.w, text), x.code)
			wantScriptCode(t, "RunScript of a wrong world", impl.RunScript(x.w, text), x.code)
		}
	}
}

func wantNoLine(t *testing.T, text string) {
	t.Helper()
	for _, w := range []impl.World{impl.NewWorld(2).World, storyWorld()} {
		wantScriptCode(t, fmt.Sprintf("StepScript of %q", text), impl.StepScript(w, text), impl.ErrText)
	}
	wantLine(t, longWorld(), text)
	if len(text) < 1500 && !strings.Contains(text, "\n") {
		wantScript(t, fmt.Sprintf("RunScript of %q", text), impl.RunScript(storyWorld(), text+"\n"), impl.ScriptResult{World: storyWorld(), Said: "! 5\n"})
	}
}

// rightLines are one of each command.
func rightLines() []string {
	lines := []string{"ask put 5 1,-2,3 by 9 1", "ask drop 5 by 9 1", "find 1 0,-20,3 3"}
	for _, one := range lineForms() {
		lines = append(lines, lineOf(one.form, 1, 2))
	}
	return lines
}

// A byte 10 makes a line none, wherever it stands, also where there are no words beside it.
func TestLinesWithLineFeeds(t *testing.T) {
	for _, text := range append(rightLines(), "", " ", "wink") {
		if text != "wink" {
			if code := impl.StepScript(storyWorld(), text).Code; code == impl.ErrText {
				t.Fatalf("%q is none", text)
			}
		}
		for at := range len(text) + 1 {
			wantNoLine(t, text[:at]+"\n"+text[at:])
			wantNoLine(t, text[:at]+" \n "+text[at:])
		}
	}
	wantNoLine(t, "\n\n")
	wantNoLine(t, "show\nshow")
}

// A word too few, a word too many, and a word at each other place make a line none.
func TestWordsTooFewAndTooMany(t *testing.T) {
	for _, text := range rightLines() {
		words := strings.Split(text, " ")
		for place := range words {
			few := strings.Join(slices.Delete(slices.Clone(words), place, place+1), " ")
			if few != "" {
				wantNoLine(t, few)
			}
			wantNoLine(t, strings.Join(slices.Insert(slices.Clone(words), place, words[place]), " "))
			if glued := slices.Clone(words); place > 0 {
				glued[place-1] += glued[place]
				wantNoLine(t, strings.Join(slices.Delete(glued, place, place+1), " "))
			}
		}
		for _, more := range []string{"0", "1", "9999", "1,2,3", "by", "x", "show", "\t", "\x00", "#", "ok"} {
			wantNoLine(t, text+" "+more)
			wantNoLine(t, more+" "+text)
		}
	}
}

// Commands are written just so.
func TestWordsThatAreNoCommands(t *testing.T) {
	for _, text := range rightLines() {
		verb, rest, _ := strings.Cut(text, " ")
		others := []string{strings.ToUpper(verb), strings.ToUpper(verb[:1]) + verb[1:], verb[:len(verb)-1], verb[1:], verb + "s", verb + ".", "\t" + verb, verb + "\r", verb + "\x00", "\ufeff" + verb, "x" + verb, "wink", "1", "put", "drop", "by", "msg", "node", "now", "ok", "idle", "none", "at", "#", "//", "help", "rest"}
		for _, other := range others {
			if other != "" {
				wantNoLine(t, other+" "+rest)
			}
		}
		for _, b := range []string{"\t", "\r", "\v", "\f", "\u00a0", "\u0085", "\u2003", ",", "\x00"} {
			if rest != "" {
				wantNoLine(t, verb+b+rest)
				wantNoLine(t, verb+" "+b+" "+rest)
			}
			wantNoLine(t, text+b)
			wantNoLine(t, b+text)
			wantNoLine(t, b)
		}
	}
}

// wrongNumberWords are no numbers: none may have a 0 ahead, a sign, five digits, or another byte.
func wrongNumberWords() []string {
	return []string{"00", "01", "001", "0001", "00000", "010", "0999", "10000", "12345", "99999", "100000", "18446744073709551617", strings.Repeat("1", 99), "-1", "-0", "+1", "+0", "--1", "1-", "1.0", "1.", ".1", "1,", ",1", "1_0", "0x1", "1e1", "x", "n", "1x", "x1", "#1", "１", "١", "1\t", "\t1", "1\x00", "\xff1", "1,2,3"}
}

func TestWrongNumbersOfLines(t *testing.T) {
	forms := []string{"find N 0,0,0 1", "find 1 0,0,0 N", "ask put N 1,2,3 by 9 1", "ask put 5 1,2,3 by N 1", "ask put 5 1,2,3 by 9 N", "ask drop N by 9 1", "ask drop 5 by N 1", "ask drop 5 by 9 N"}
	for _, one := range lineForms() {
		if strings.Contains(one.form, "N") {
			forms = append(forms, strings.Replace(one.form, "N", "1", 1), one.form)
		}
	}
	for _, form := range forms {
		if !strings.Contains(form, "N") {
			continue
		}
		for _, word := range wrongNumberWords() {
			wantNoLine(t, strings.ReplaceAll(strings.Replace(form, "N", word, 1), "N", "1"))
		}
	}
	for _, text := range []string{"ask drop 0 by 1 1", "ask drop 1000 by 1 1", "ask drop 1 by 0 1", "ask drop 1 by 10 1", "ask drop 1 by 1 0", "ask drop 1 by 1 1000", "ask put 0 0,0,0 by 1 1", "ask put 1000 0,0,0 by 1 1", "ask put 9999 0,0,0 by 1 1"} {
		wantNoLine(t, text)
	}
}

// A vector is told by its text alone.
func TestWrongVectorsOfLines(t *testing.T) {
	for _, word := range []string{"0", "0,0", "0,0,0,0", "1001,0,0", "0,-1001,0", "0,0,99999", "-0,0,0", "00,0,0", "0,01,0", "+1,0,0", "0,0,", ",0,0", ",,", "0,,0", "0;0;0", "0,0,0,", "0.0,0,0", "x,y,z", "(0,0,0)", "0,0,0\t", "0,0,\x00", "1 2 3", "0, 0,0", "0 ,0,0", "by", "#1", "0,0,１", "18446744073709551616,0,0", strings.Repeat("0,", 500) + "0"} {
		wantNoLine(t, "find 1 "+word+" 3")
		wantNoLine(t, "ask put 5 "+word+" by 9 1")
	}
	for _, text := range []string{"find 1 3 0,0,0", "find 0,0,0 1 3", "find 1 1 1", "ask put 0,0,0 5 by 9 1", "ask drop 5 0,0,0 by 9 1", "ask put 5 by 9 1", "ask put 5 0,0,0 0,0,0 by 9 1"} {
		wantNoLine(t, text)
	}
}

// All lines of up to four of the words at which something turns, held against what they should do.
func TestAllLinesOfFewWords(t *testing.T) {
	words := []string{"send", "ack", "find", "drain", "read", "show", "ask", "tick", "1", "0", "01", "1,2,3", "drop"}
	w := storyWorld()
	texts := []string{""}
	codes := map[int64]int{}
	for range 4 {
		var longer []string
		for _, text := range texts {
			for _, word := range words {
				longer = append(longer, text+" "+word)
			}
		}
		for _, text := range longer {
			codes[wantLine(t, w, text).Code]++
		}
		texts = longer
	}
	if codes[impl.OK] < 8 || codes[impl.ErrNone] < 5 || codes[impl.ErrText] < 1000 {
		t.Errorf("so many codes: %v", codes)
	}
}

// One byte more, less or other, and each beginning and end: a line, or none.
func TestLinesNearby(t *testing.T) {
	w := impl.NewWorld(1).World
	for _, text := range rightLines() {
		for at := 0; at <= len(text); at++ {
			for b := 0; b < 256; b++ {
				if b > 64 && b%5 > 0 && b < 250 {
					continue
				}
				wantLine(t, w, text[:at]+string([]byte{byte(b)})+text[at:])
				if at < len(text) {
					wantLine(t, w, text[:at]+string([]byte{byte(b)})+text[at+1:])
				}
			}
			wantLine(t, w, text[:at])
			wantLine(t, w, text[at:])
		}
	}
}

// A line may be as long as it will, and is none, or what it should be.
func TestLongLines(t *testing.T) {
	for _, word := range []string{"x", "1", "0", "ask", "send 1 1", "1,2,3", "\xff"} {
		wantNoLine(t, strings.Repeat(word+" ", 20000))
		wantNoLine(t, "find "+strings.Repeat(word, 40000)+" 1")
		wantNoLine(t, "ask "+strings.Repeat(word+" ", 20000))
		wantNoLine(t, strings.Repeat(" ", 50000)+word+" y")
	}
	wantLine(t, storyWorld(), strings.Repeat(" ", 50000)+"sync"+strings.Repeat(" ", 50000)+"1"+strings.Repeat(" ", 50000))
}

// More than 1500 bytes, or more than 60 lines, are too many, whatever stands there.
func TestScriptsThatAreTooLong(t *testing.T) {
	for _, w := range []impl.World{impl.NewWorld(2).World, storyWorld(), fullWorld()} {
		for _, size := range []int{1501, 1502, 1600, 3000, 100000} {
			for _, text := range []string{strings.Repeat(" ", size), strings.Repeat("x", size), strings.Repeat(" ", size-1) + "\n", "\n" + strings.Repeat(" ", size-1), strings.Repeat("\n", size), strings.Repeat("tick 1\n", size/7+1), strings.Repeat("ü", size/2+1), strings.Repeat(" ", size-7) + "\ntick 1"} {
				wantScriptCode(t, fmt.Sprint(len(text), " bytes"), impl.RunScript(w, text), impl.ErrMany)
			}
		}
		for _, line := range []string{"", " ", "tick 1", "wink", "show"} {
			for _, count := range []int{60, 61, 100} {
				text := strings.Repeat(line+"\n", count)
				if count > 60 {
					wantScriptCode(t, fmt.Sprint(count, " lines"), impl.RunScript(w, text), impl.ErrMany)
				}
				for _, last := range []string{" ", "x", "tick 1", "\r", "\n", "tick 1\n", " \n"} {
					wantScriptCode(t, fmt.Sprint(count, " lines and one more"), impl.RunScript(w, text+last), impl.ErrMany)
				}
			}
		}
	}
	for size := 1490; size < 1510; size++ {
		for count := 57; count < 64; count++ {
			wantRun(t, impl.NewWorld(1).World, strings.Repeat("\n", count)+strings.Repeat(" ", size-count))
			wantRun(t, impl.NewWorld(1).World, strings.Repeat(" ", size-count)+strings.Repeat("\n", count))
		}
	}
}

// Of an answer the fault of its Vec is told ahead of that of its hits, and that ahead of an At out of bounds; its Code and its World are not asked.
func TestWrongAnswerTexts(t *testing.T) {
	goodHits, goodVec := []impl.Hit{{Id: 3, Score: 5}, {Id: 1, Score: 6}}, []int64{1, -2, 3}
	ats := append(outOf(0, 40), 42, 1<<32+5, math.MinInt64+1)
	for _, at := range append(ats, 0, 5, 40) {
		isOut := at < 0 || at > 40
		for _, hits := range append(wrongLists(), wrongList{nil, impl.OK}, wrongList{goodHits, impl.OK}) {
			for _, vec := range append(wrongVecs(), wrongVec{nil, impl.OK}, wrongVec{goodVec, impl.OK}) {
				want := int64(impl.OK)
				switch {
				case len(vec.v) > 0 && vec.code != impl.OK:
					want = vec.code
				case hits.code != impl.OK:
					want = hits.code
				case isOut:
					want = impl.ErrRange
				}
				a := impl.AnswerResult{At: at, Vec: vec.v, Hits: hits.hits}
				if want == impl.OK {
					wantTextOf(t, "AnswerText", impl.AnswerText(a), textOfAnswer(at, vec.v, hits.hits))
				} else {
					wantTextCode(t, fmt.Sprintf("AnswerText of %+v", a), impl.AnswerText(a), want)
				}
			}
		}
	}
}

// Each number of a part, of an At and of a hit that is just out of its bounds is told.
func TestAnswerTextsAtTheirBounds(t *testing.T) {
	for _, n := range []int64{-1, 0, 1, 39, 40, 41} {
		if got := impl.AnswerText(impl.AnswerResult{At: n}); (got.Code == impl.OK) != (n >= 0 && n <= 40) {
			t.Errorf("At %d: %+v", n, got)
		}
	}
	for _, n := range []int64{0, 1, 999, 1000} {
		if got := impl.AnswerText(impl.AnswerResult{Hits: []impl.Hit{{Id: n}}}); (got.Code == impl.OK) != (n == 1 || n == 999) {
			t.Errorf("a hit %d: %+v", n, got)
		}
	}
	for _, n := range []int64{-1001, -1000, 1000, 1001} {
		if got := impl.AnswerText(impl.AnswerResult{Vec: []int64{0, 0, n}}); (got.Code == impl.OK) != (n == 1000 || n == -1000) {
			t.Errorf("a part %d: %+v", n, got)
		}
	}
	wantTextCode(t, "a Vec of two parts", impl.AnswerText(impl.AnswerResult{Vec: []int64{0, 0}}), impl.ErrForm)
	wantTextCode(t, "a Vec of four parts", impl.AnswerText(impl.AnswerResult{Vec: make([]int64, 4), At: 41}), impl.ErrForm)
	wantTextCode(t, "21 hits", impl.AnswerText(impl.AnswerResult{Hits: fullHits(21, 0)}), impl.ErrMany)
}

// ownLines are answers to lines and scripts that have no code, most of them, by all that a world may be told.
func ownLines(w impl.World) map[string]impl.ScriptResult {
	answers := map[string]impl.ScriptResult{}
	texts := append(rightLines(), "", "  ", "hear 0", "lose 0", "hear 1", "tick 0", "tick 1")
	for _, n := range w.Nodes {
		for _, form := range []string{"read N 5", "find N 0,0,0 3", "send N 1", "ack N", "sync N", "crash N 0", "start N", "beat N", "remove N", "join N"} {
			texts = append(texts, lineOf(form, n.Id))
		}
	}
	for _, e := range w.History {
		texts = append(texts, lineOf("finish N N", e.Session, e.Seq))
	}
	for _, text := range texts {
		answers["StepScript "+text] = impl.StepScript(w, text)
		answers["RunScript "+text] = impl.RunScript(w, text)
	}
	answers["RunScript of many"] = impl.RunScript(w, strings.Join(texts[:min(60, len(texts))], "\n"))
	answers["RunScript of codes"] = impl.RunScript(w, "wink\nsync 9\n")
	return answers
}

// P1: no argument is changed, not even what lies behind it, nor by a change of the answer; and the answer is new memory, also where nothing changed, and where a line has a code.
func TestScriptedWorldsStay(t *testing.T) {
	met := 0
	for i, was := range append(readWorlds(), fullWorld(), lateWorld()) {
		if i%3 > 0 && i > 6 {
			continue
		}
		w := roomyWorld(was)
		before := told(reflect.ValueOf(w))
		impl.WorldText(w)
		for what, got := range ownLines(w) {
			if got.Code == impl.OK {
				met++
			}
			wantOwnMemory(t, what, got, w)
			scribbleWorld(&got.World)
		}
		if after := told(reflect.ValueOf(w)); before != after {
			t.Fatalf("%s became %s", before, after)
		}
	}
	for i, x := range wrongWorlds() {
		if i%29 == 0 {
			w := roomyWorld(x.w)
			before := told(reflect.ValueOf(w))
			ownLines(w)
			impl.WorldText(w)
			if after := told(reflect.ValueOf(w)); before != after {
				t.Fatalf("%s became %s", before, after)
			}
		}
	}
	if met < 300 {
		t.Errorf("only %d had no code", met)
	}
}

// P1: an answer whose text is asked for stays, with a fault and without.
func TestToldAnswersStay(t *testing.T) {
	list := []impl.AnswerResult{{At: 41}, {At: 3, Vec: []int64{1, 2, 3}, Hits: []impl.Hit{{Id: 1}, {Id: 2}}, World: storyWorld()}}
	for _, x := range wrongVecs() {
		list = append(list, impl.AnswerResult{Vec: x.v, Hits: []impl.Hit{{Id: 5}}})
	}
	for _, x := range wrongLists() {
		list = append(list, impl.AnswerResult{Vec: []int64{1, 2, 3}, Hits: x.hits})
	}
	for _, was := range list {
		a := roomy(reflect.ValueOf(was)).Interface().(impl.AnswerResult)
		before := told(reflect.ValueOf(a))
		impl.AnswerText(a)
		if after := told(reflect.ValueOf(a)); before != after {
			t.Fatalf("%s became %s", before, after)
		}
	}
}

// P1: the lists of an answer are apart also where those that were given were one.
func TestScriptedWorldsOfOneVector(t *testing.T) {
	one, writes := []int64{1, 2, 3}, []impl.Write{}
	for seq := int64(1); seq <= 6; seq++ {
		writes = append(writes, impl.Write{Kind: 1, Id: seq, Vec: one, Session: 1, Seq: seq})
	}
	w := impl.World{Events: 9, Chain: impl.Chain{Epoch: 1, Ids: one}, Msgs: []impl.Msg{forwardOf(1, 1, 2, 1, writes[0]), forwardOf(1, 2, 3, 1, writes[0])}}
	for id := int64(1); id <= 3; id++ {
		w.Nodes = append(w.Nodes, impl.Node{Id: id, Up: true, Epoch: 1, Writes: writes[:7-id], Sure: 3, Clean: 1})
	}
	w.History = []impl.Entry{{Kind: 2, Start: 1, Vec: one, Query: one}, {Kind: 1, Session: 1, Seq: 2, Start: 1, Vec: one, Query: one}}
	for what, got := range ownLines(w) {
		wantOwnMemory(t, what, got, w)
		scribbleWorld(&got.World)
		if !slices.Equal(one, []int64{1, 2, 3}) {
			t.Fatalf("%s: what was given became %v", what, one)
		}
	}
}

// P1: an answer is the same whatever was called or changed ahead of it, also behind calls that told a code.
func TestScriptsKeepNothing(t *testing.T) {
	want, kept := ownLines(storyWorld()), ownLines(storyWorld())
	for _, got := range ownLines(storyWorld()) {
		scribbleWorld(&got.World)
	}
	for _, x := range fewWrongWorlds() {
		impl.RunScript(x.w, "show\nwink\n")
	}
	spoiled := storyWorld()
	again := ownLines(spoiled)
	scribbleWorld(&spoiled)
	for what, got := range want {
		if !alikeScript(kept[what], got) || !alikeScript(again[what], got) {
			t.Errorf("%s: %+v became %+v and %+v", what, got, kept[what], again[what])
		}
	}
}

// P1: two scripts from one world stay apart.
func TestScriptedWorldsThatPart(t *testing.T) {
	w := impl.RunScript(storyWorld(), "read 1 6\nbeat 2\n").World
	was := cloneWorld(w)
	left, right := impl.RunScript(w, "ask drop 6 by 9 1\nsend 1 1\nread 2 6\n"), impl.RunScript(w, "ask drop 7 by 9 2\nsend 2 1\nfind 2 0,0,0 3\n")
	wantOwnMemory(t, "RunScript twice", left, right, w)
	wantScript(t, "RunScript", left, shouldRun(was, "ask drop 6 by 9 1\nsend 1 1\nread 2 6\n"))
	wantScript(t, "RunScript", right, shouldRun(was, "ask drop 7 by 9 2\nsend 2 1\nfind 2 0,0,0 3\n"))
	if !alikeWorld(w, was) {
		t.Errorf("%+v became %+v", was, w)
	}
}

// P1: no list and one without anything in it are the same.
func TestScriptsOfEmptyLists(t *testing.T) {
	none := impl.World{Chain: chainOf(1, 1), Nodes: []impl.Node{{Id: 1, Up: true, Epoch: 1}}}
	empty := impl.World{Chain: chainOf(1, 1), Nodes: []impl.Node{{Id: 1, Up: true, Epoch: 1, Writes: []impl.Write{}}}, Msgs: []impl.Msg{}, History: []impl.Entry{}}
	for _, text := range []string{"", "show", "drain", "read 1 1\nfind 1 0,0,0 2\nask drop 1 by 1 1\nshow"} {
		wantScript(t, text, impl.RunScript(empty, text), impl.RunScript(none, text))
	}
	wantTextOf(t, "AnswerText", impl.AnswerText(impl.AnswerResult{At: 7, Vec: []int64{}, Hits: []impl.Hit{}}), "at 7 none")
	wantTextOf(t, "AnswerText", impl.AnswerText(impl.AnswerResult{At: 7, Hits: []impl.Hit{{Id: 1}}, Vec: []int64{}}), "at 7 #1 0")
}

// P1: calls at the same time keep nothing that another one could see (a run with -race tells of it as well).
func TestScriptsBesideOneAnother(t *testing.T) {
	done := make(chan bool)
	shared := storyWorld()
	for worker := range int64(8) {
		text := fmt.Sprintf("ask drop %d by 9 %d\nread 1 6\nwink\nsend 2 %d\nshow\n", 1+worker, 1+worker, 1+worker)
		want := shouldRun(storyWorld(), text)
		step := shouldSay(storyWorld(), lineOf("read N N", 1+worker%3, 6))
		go func() {
			right := true
			for range 40 {
				right = right && alikeScript(impl.RunScript(shared, text), want) && alikeScript(impl.StepScript(shared, lineOf("read N N", 1+worker%3, 6)), step)
				right = right && impl.WorldText(shared).Text == textOfWorld(shared) && len(impl.WordsOf(text).Words) > 9
			}
			done <- right
		}()
	}
	for range 8 {
		if !<-done {
			t.Error("a call answered otherwise beside others")
		}
	}
}
