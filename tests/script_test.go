package tests

import (
	"fmt"
	"math/rand"
	"regexp"
	"slices"
	"strconv"
	"strings"
	"testing"
	"unsafe"

	"loop.example/g00357/impl"
)

func TestScriptBounds(t *testing.T) {
	if impl.MaxScript != 1500 || impl.MaxLines != 60 {
		t.Errorf("MaxScript is %d, MaxLines %d", impl.MaxScript, impl.MaxLines)
	}
}

func wantWords(t *testing.T, line string, want ...string) {
	t.Helper()
	if got := impl.WordsOf(line); got.Code != impl.OK || !slices.Equal(got.Words, want) {
		t.Fatalf("WordsOf(%q) = %+v, want %q", line, got, want)
	}
}

// Several blanks between words, ahead of and behind them make none; nothing but a blank parts two words.
func TestWordsOfExamples(t *testing.T) {
	for _, line := range []string{"", " ", "  ", strings.Repeat(" ", 2000)} {
		wantWords(t, line)
	}
	for _, line := range []string{"a b", " a b", "a b ", "a  b", "  a   b    "} {
		wantWords(t, line, "a", "b")
	}
	wantWords(t, "b a b", "b", "a", "b")
	wantWords(t, "ask put 5 1,2,3 by 1 1", "ask", "put", "5", "1,2,3", "by", "1", "1")
	wantWords(t, "a\tb c\nd e\rf g\vh \u00a0 \u2003 \x00", "a\tb", "c\nd", "e\rf", "g\vh", "\u00a0", "\u2003", "\x00")
	wantWords(t, "\xff \xe2\x80 ü\xc3 \xa0", "\xff", "\xe2\x80", "ü\xc3", "\xa0")
	wantWords(t, strings.Repeat("x ", 5000), slices.Repeat([]string{"x"}, 5000)...)
	wantWords(t, strings.Repeat("x", 5000), strings.Repeat("x", 5000))
}

// All lines of up to eight bytes at which something turns, and each byte between two words.
func TestWordsOfAllShortLines(t *testing.T) {
	pattern := regexp.MustCompile("[^ ]+")
	lines := []string{""}
	for range 8 {
		var longer []string
		for _, line := range lines {
			for _, b := range []string{" ", "a", "\n", "\t"} {
				longer = append(longer, line+b)
			}
		}
		for _, line := range longer {
			wantWords(t, line, pattern.FindAllString(line, -1)...)
		}
		lines = longer
	}
	for b := range 256 {
		if between := string([]byte{byte(b)}); b == 32 {
			wantWords(t, "x"+between+"y", "x", "y")
		} else {
			wantWords(t, "x"+between+"y", "x"+between+"y")
			wantWords(t, between+" "+between, between, between)
		}
	}
}

// P1: the words are new memory, and of two answers too.
func TestWordsAreNew(t *testing.T) {
	line := strings.Repeat("send 1 23 ", 20)
	first, second := impl.WordsOf(line).Words, impl.WordsOf(line).Words
	from := uintptr(unsafe.Pointer(unsafe.StringData(line)))
	for i, word := range first {
		at := uintptr(unsafe.Pointer(unsafe.StringData(word)))
		if from <= at && at < from+uintptr(len(line)) {
			t.Fatalf("the word %q is the line's own memory", word)
		}
		first[i] = "x"
	}
	wantWords(t, line, second...)
	if len(second) != 60 || second[59] != "23" {
		t.Errorf("the words became %q", second)
	}
}

func TestAnswerTextOfExamples(t *testing.T) {
	hits := []impl.Hit{{Id: 6, Score: 2}, {Id: 7, Score: 2}, {Id: 1, Score: 12000000}}
	for want, a := range map[string]impl.AnswerResult{
		"at 0 none":                          {},
		"at 40 none":                         {At: 40, Vec: []int64{}, Hits: []impl.Hit{}},
		"at 3 1,2,3":                         {At: 3, Vec: []int64{1, 2, 3}},
		"at 4 0,0,0":                         {At: 4, Vec: []int64{0, 0, 0}},
		"at 12 -1000,0,1000":                 {At: 12, Vec: []int64{-1000, 0, 1000}},
		"at 1 #5 14":                         {At: 1, Hits: []impl.Hit{{Id: 5, Score: 14}}},
		"at 1 #999 0":                        {At: 1, Hits: []impl.Hit{{Id: 999}}},
		"at 9 #6 2 #7 2 #1 12000000":         {At: 9, Hits: hits},
		"at 9 1,-1,0 #6 2 #7 2 #1 12000000":  {At: 9, Vec: []int64{1, -1, 0}, Hits: hits},
		"at 10 1,-1,0 #6 2 #7 2 #1 12000000": {Code: 7, At: 10, Vec: []int64{1, -1, 0}, Hits: hits, World: impl.World{Now: -1}},
	} {
		wantTextOf(t, "AnswerText", impl.AnswerText(a), want)
	}
}

var answerPattern = regexp.MustCompile(`^at (\d+)(?: (-?\d+,-?\d+,-?\d+))?((?: #\d+ \d+)*)( none)?\z`)

// answerOfText reads an answer back: what it is, if it is one.
func answerOfText(text string) (a impl.AnswerResult, ok bool) {
	found := answerPattern.FindStringSubmatch(text)
	if found == nil {
		return a, false
	}
	a.At, _ = strconv.ParseInt(found[1], 10, 64)
	a.Vec = vecOfText(found[2])
	for _, one := range strings.Split(found[3], " #")[1:] {
		n := numbersOf(strings.Split(one, " "))
		a.Hits = append(a.Hits, impl.Hit{Id: n[0], Score: n[1]})
	}
	return a, (found[4] != "") == (len(a.Vec)+len(a.Hits) == 0)
}

func wantReadBack(t *testing.T, a impl.AnswerResult) {
	t.Helper()
	got := impl.AnswerText(a)
	wantTextOf(t, "AnswerText", got, textOfAnswer(a.At, a.Vec, a.Hits))
	back, ok := answerOfText(got.Text)
	if !ok || back.At != a.At || !slices.Equal(back.Vec, a.Vec) || !slices.Equal(back.Hits, a.Hits) {
		t.Fatalf("%+v is read back from %q as %+v", a, got.Text, back)
	}
}

// P17: what is said of an answer is what it is, as each At, each vector and each number of hits.
func TestAnswersAreReadBack(t *testing.T) {
	vecs := append(edgeVecs(), nil)
	for at := range int64(41) {
		for i, vec := range append(vecs, someVecs(20)...) {
			for count := range int64(21) {
				if (int64(i)+at+count)%5 == 0 || vec == nil {
					wantReadBack(t, impl.AnswerResult{At: at, Vec: vec, Hits: fullHits(20, at)[:count]})
				}
			}
		}
	}
	for id := int64(1); id <= 999; id++ {
		wantReadBack(t, impl.AnswerResult{At: id % 41, Hits: []impl.Hit{{Id: id, Score: id * 12000}, {Id: 1000 - id, Score: 11999999}}})
	}
}

// P17: what a world says of an answer is that answer, of each node, and each id or query.
func TestSaidAnswersAreTheAnswers(t *testing.T) {
	from := rand.New(rand.NewSource(101))
	met := map[string]int{}
	for _, w := range append(toldWorlds(t), storyWorld(), longWorld()) {
		id, k, query := from.Int63n(11), from.Int63n(21), someQuery(from)
		for _, n := range w.Nodes {
			read, find := impl.ReadWorld(w, n.Id, id), impl.FindWorld(w, n.Id, query, k)
			lines := []string{lineOf("read N N", n.Id, id), fmt.Sprintf("find %d %d,%d,%d %d", n.Id, query[0], query[1], query[2], k)}
			for i, a := range []impl.AnswerResult{read, find} {
				if a.Code != impl.OK {
					wantScriptCode(t, lines[i], impl.StepScript(w, lines[i]), a.Code)
					wantScript(t, lines[i], impl.RunScript(w, lines[i]), impl.ScriptResult{World: w, Said: fmt.Sprintf("! %d\n", a.Code)})
					met["code"]++
					continue
				}
				said := impl.AnswerText(a).Text
				wantScript(t, lines[i], impl.StepScript(w, lines[i]), impl.ScriptResult{World: a.World, Said: said})
				wantScript(t, lines[i], impl.RunScript(w, lines[i]), impl.ScriptResult{World: a.World, Said: said + "\n"})
				wantReadBack(t, a)
				met[map[bool]string{true: "none", false: "some"}[len(a.Vec)+len(a.Hits) == 0]+strconv.Itoa(i)]++
			}
		}
	}
	for _, what := range []string{"code", "none0", "some0", "none1", "some1"} {
		if met[what] < 20 {
			t.Errorf("%s was met %d times", what, met[what])
		}
	}
}

func TestWorldTextOfExamples(t *testing.T) {
	wantTextOf(t, "WorldText", impl.WorldText(impl.NewWorld(1).World), "now 0 epoch 1 : 1\nnode 1 up 1 0 0 0 0\n")
	wantTextOf(t, "WorldText", impl.WorldText(impl.NewWorld(3).World), "now 0 epoch 1 : 1 2 3\nnode 1 up 1 0 0 0 0\nnode 2 up 1 0 0 0 0\nnode 3 up 1 0 0 0 0\n")
	wantTextOf(t, "WorldText", impl.WorldText(longWorld()), strings.Join([]string{
		"now 77 epoch 7 : 4 2 5",
		"node 1 up 5 60 4 3 2", "node 2 up 7 80 7 6 4", "node 3 down 6 0 2 2 0", "node 4 up 7 81 10 9 3", "node 5 up 7 79 6 5 5",
		"msg " + textOfMsg(longWorld().Msgs[0]), "msg " + textOfMsg(longWorld().Msgs[1]), "msg ack 7 5 2 5", "msg ack 7 2 4 4",
		"msg " + textOfMsg(longWorld().Msgs[4]), "msg ack 6 5 2 5", "msg forward 5 1 4 11 drop 1 by 1 999", "msg ack 7 5 2 0", "",
	}, "\n"))
	world := impl.World{Now: 9000, Chain: chainOf(999, 2, 1), Nodes: []impl.Node{{Id: 1, Epoch: 999}, {Id: 2, Up: true, Epoch: 999, Lease: 9999}, {Id: 3}}, Msgs: []impl.Msg{forwardOf(1, 4, 5, 40, putOf(999, 9, 999, -1000, 0, 1000))}}
	wantTextOf(t, "WorldText", impl.WorldText(world), "now 9000 epoch 999 : 2 1\nnode 1 down 999 0 0 0 0\nnode 2 up 999 9999 0 0 0\nnode 3 down 0 0 0 0 0\nmsg forward 1 4 5 40 put 999 -1000,0,1000 by 9 999\n")
}

// A world's text is all of it but its events and its history.
func TestWorldTexts(t *testing.T) {
	for _, w := range slices.Concat(manyWorlds(), ledWorlds(), bentWorlds(), []impl.World{storyWorld(), fullWorld(), lateWorld()}) {
		wantTextOf(t, "WorldText", impl.WorldText(w), textOfWorld(w))
		wantScript(t, "show", impl.StepScript(w, "show"), impl.ScriptResult{World: w, Said: textOfWorld(w)})
		other := cloneWorld(w)
		other.Events, other.History = 9999, nil
		wantTextOf(t, "WorldText", impl.WorldText(other), textOfWorld(w))
	}
}

// scriptSteps are lines one by one, and what each of them says.
func scriptSteps() [][2]string {
	return [][2]string{
		{"show", "now 0 epoch 1 : 1 2\nnode 1 up 1 0 0 0 0\nnode 2 up 1 0 0 0 0\n"},
		{"ask put 5 1,2,3 by 1 1", "ok\n"}, {"ask put 5 1,2,3 by 1 1", "ok\n"}, {"ask drop 9 by 1 3", "ok\n"}, {"ask drop 9 by 1 2", "! 7\n"},
		{"send 1 1", "! 3\n"}, {"sync 1", "ok\n"}, {"send 1 1", "ok\n"}, {"send 1 2", "ok\n"}, {"send 2 1", "! 8\n"}, {"send 3 1", "! 4\n"},
		{"hear 1", "idle\n"}, {"hear 0", "ok\n"}, {"hear 0", "idle\n"}, {"hear 2", "! 3\n"}, {"lose 1", "ok\n"}, {"lose 1", "! 3\n"},
		{"read 2 5", "at 0 none\n"}, {"finish 1 1", "! 8\n"}, {"sync 2", "ok\n"}, {"finish 1 1", "ok\n"}, {"finish 1 1", "! 6\n"}, {"finish 1 9", "! 4\n"},
		{"read 1 5", "at 1 1,2,3\n"}, {"find 1 0,0,0 3", "at 1 #5 14\n"}, {"find 2 1,2,-3 1", "at 1 #5 36\n"}, {"find 2 0,0,0 0", "at 1 none\n"}, {"find 2 0,0,0 21", "! 3\n"}, {"read 1 0", "! 3\n"}, {"read 3 5", "! 4\n"},
		{"ack 2", "ok\n"}, {"hear 1", "ok\n"}, {"ack 1", "! 8\n"}, {"beat 1", "ok\n"}, {"tick 0", "idle\n"}, {"tick 4", "ok\n"}, {"tick 101", "! 3\n"}, {"read 2 5", "! 9\n"}, {"read 1 5", "at 1 1,2,3\n"},
		{"remove 1", "! 9\n"}, {"remove 2", "ok\n"}, {"remove 1", "! 8\n"}, {"remove 2", "! 4\n"}, {"join 1", "! 6\n"}, {"read 2 5", "! 10\n"}, {"join 2", "ok\n"},
		{"crash 2 1", "! 3\n"}, {"crash 2 0", "ok\n"}, {"crash 2 0", "! 10\n"}, {"start 2", "ok\n"}, {"start 2", "! 8\n"}, {"", ""}, {"   ", ""}, {"wink", "! 5\n"},
		{"ask put 7 0,0,1000 by 2 1", "ok\n"}, {"drain", "ok\n"}, {"drain", "idle\n"}, {"  find   2  0,0,0    9 ", "! 9\n"}, {"beat 2", "ok\n"}, {"find 2 0,0,0 9", "at 3 #5 14 #7 1000000\n"},
		{"show", "now 4 epoch 3 : 1 2\nnode 1 up 3 4 3 3 3\nnode 2 up 3 8 3 3 3\n"},
	}
}

// All that is said of these lines is written out; line by line, and as scripts of one line, and of all of them that have room in one.
func TestScriptsOfExamples(t *testing.T) {
	w, whole := impl.NewWorld(2).World, impl.NewWorld(2).World
	text, said := "", ""
	for i, step := range scriptSteps() {
		got := wantLine(t, w, step[0])
		run := wantRun(t, w, step[0])
		if run.Said != step[1] {
			t.Fatalf("%q says %q, want %q", step[0], run.Said, step[1])
		}
		if got.Code == impl.OK {
			w = got.World
		}
		text, said = text+step[0]+"\n", said+step[1]
		if i%30 == 29 || i == len(scriptSteps())-1 {
			wantScript(t, "RunScript of many lines", impl.RunScript(whole, text), impl.ScriptResult{World: w, Said: said})
			whole, text, said = w, "", ""
		}
	}
}

// P17: a line does what its function does, and says it; each command, with numbers that are right and wrong.
func TestLinesDoWhatTheyTell(t *testing.T) {
	from := rand.New(rand.NewSource(106))
	met := map[string]int{}
	for _, w := range slices.Concat(ledWorlds(), toldWorlds(t), []impl.World{storyWorld(), longWorld(), fullWorld(), impl.NewWorld(5).World}) {
		for _, one := range lineForms() {
			numbers := []int64{from.Int63n(6), from.Int63n(8)}
			if one.form == "tick N" {
				numbers = []int64{from.Int63n(130)}
			}
			text := lineOf(one.form, numbers...)
			got := impl.StepScript(w, text)
			wantScript(t, text+" as its function", got, one.does(w, numbers))
			wantScript(t, text, got, one.should(w, numbers))
			met[fmt.Sprint(one.form, got.Code == impl.OK)]++
		}
	}
	for _, one := range lineForms() {
		if met[one.form+"true"] < 20 || met[one.form+"false"] < 20 && strings.Contains(one.form, "N") {
			t.Errorf("%s: %v", one.form, met)
		}
	}
}

// P17: `ask` asks for the write whose text stands behind it.
func TestAsksOfLines(t *testing.T) {
	worlds := []impl.World{storyWorld(), impl.NewWorld(1).World, downIn(storyWorld(), 1), longWorld(), fullWorld()}
	for i, x := range manyWrites() {
		w := worlds[i%len(worlds)]
		got := wantLine(t, w, "ask "+textOfWrite(x))
		wantScript(t, "ask as AskWorld", got, sayStep(impl.AskWorld(w, x)))
	}
	got := impl.StepScript(impl.NewWorld(1).World, "ask put 7 1,-2,1000 by 9 1")
	if got.Said != "ok" || !alike(got.World.Nodes[0].Writes[0], putOf(7, 9, 1, 1, -2, 1000)) {
		t.Errorf("%+v", got)
	}
}

// Vectors in lines are those whose text stands there.
func TestVectorsOfLines(t *testing.T) {
	w := storyWorld()
	for i, v := range append(edgeVecs(), someVecs(200)...) {
		text := fmt.Sprintf("find %d %d,%d,%d %d", 1+i%3, v[0], v[1], v[2], i%21)
		got := wantLine(t, w, text)
		wantScript(t, text, got, sayAnswer(impl.FindWorld(w, int64(1+i%3), v, int64(i%21))))
		if entry := got.World.History[len(got.World.History)-1]; !slices.Equal(entry.Query, v) {
			t.Fatalf("%s: the query is %v", text, entry.Query)
		}
	}
}

// Numbers have 1 to 4 digits, and 0 itself is one.
func TestNumbersOfLines(t *testing.T) {
	w := impl.NewWorld(1).World
	for n := range int64(10000) {
		if n%10 == 0 || n < 200 {
			wantLine(t, w, lineOf("tick N", n))
			wantLine(t, w, lineOf("read N N", 1, n))
			wantLine(t, w, lineOf("read N N", n, 1))
		}
	}
	wantScript(t, "tick 0", impl.StepScript(w, "tick 0"), impl.ScriptResult{World: eventOf(w), Said: "idle"})
	for _, n := range []int64{0, 9, 10, 999, 1000, 9999} {
		code := int64(impl.ErrRange)
		if n <= 100 {
			code = impl.OK
		}
		if got := impl.StepScript(w, lineOf("tick N", n)); got.Code != code || code == impl.OK && got.World.Now != n {
			t.Errorf("tick %d: %+v", n, got)
		}
	}
}

// The two numbers of a line stand in the order of those of its function.
func TestNumbersInTheirOrder(t *testing.T) {
	w := storyWorld()
	if got := impl.StepScript(w, "send 2 5"); len(got.World.Msgs) != 1 || !alikeMsg(got.World.Msgs[0], forwardOf(3, 2, 3, 5, storyWrites()[4])) {
		t.Errorf("send 2 5: %+v", got)
	}
	if got := impl.StepScript(w, "finish 2 1"); got.Code != impl.OK || got.World.History[1].End != 41 {
		t.Errorf("finish 2 1: %+v", got)
	}
	if got := impl.StepScript(w, "read 3 7"); got.Said != "at 4 3,0,0" {
		t.Errorf("read 3 7: %+v", got)
	}
	if got := impl.StepScript(w, "find 3 3,0,0 1"); got.Said != "at 4 #7 0" {
		t.Errorf("find 3 3,0,0 1: %+v", got)
	}
	w.Nodes[1].Sure = 3
	if got := impl.StepScript(w, "crash 2 1"); got.Code != impl.OK || got.World.Nodes[1].Up || len(got.World.Nodes[1].Writes) != 4 {
		t.Errorf("crash 2 1: %+v", got)
	}
}

// Blanks ahead of, behind and between the words are as one between them, also in what is asked for.
func TestBlanksOfLines(t *testing.T) {
	from := rand.New(rand.NewSource(102))
	lines := []string{"ask put 5 1,2,3 by 9 1", "ask drop 5 by 9 1", "find 1 0,0,0 3", "show", "drain"}
	for _, one := range lineForms() {
		lines = append(lines, lineOf(one.form, 2, 1))
	}
	for _, text := range lines {
		want := wantLine(t, storyWorld(), text)
		for range 20 {
			loose := loosened(from, text)
			wantScript(t, loose, wantLine(t, storyWorld(), loose), want)
		}
		wide := strings.ReplaceAll(text, " ", strings.Repeat(" ", 300))
		wantScript(t, wide, wantLine(t, storyWorld(), " "+wide+" "), want)
	}
}

// A line without words, of blanks alone or not, changes nothing and says nothing, not even where there is no event any more.
func TestLinesWithoutWords(t *testing.T) {
	ended := fullWorld()
	ended.Events = 9999
	for _, w := range []impl.World{impl.NewWorld(1).World, storyWorld(), longWorld(), fullWorld(), ended} {
		for _, blanks := range []int{0, 1, 2, 7, 1000, 3000} {
			text := strings.Repeat(" ", blanks)
			wantScript(t, "no words", impl.StepScript(w, text), impl.ScriptResult{World: w})
			if blanks <= 1000 {
				wantScript(t, "no words", impl.RunScript(w, text), impl.ScriptResult{World: w})
				wantScript(t, "no words", impl.RunScript(w, text+"\n \n\n"), impl.ScriptResult{World: w})
			}
		}
		wantScript(t, "show", impl.StepScript(w, "show"), impl.ScriptResult{World: w, Said: textOfWorld(w)})
	}
}

// No event is needed where the function counts none, and each line of the others tells that there are all.
func TestLinesWhereEventsEnd(t *testing.T) {
	w := storyWorld()
	w.Events = 9999
	for _, one := range lineForms() {
		got := wantLine(t, w, lineOf(one.form, 1, 1))
		if isFree := one.form == "show" || one.form == "drain"; (got.Code == impl.OK) != isFree || !isFree && got.Code != impl.ErrMany {
			t.Errorf("%s: %+v", one.form, got)
		}
	}
	wantScriptCode(t, "ask", impl.StepScript(w, "ask drop 1 by 9 1"), impl.ErrMany)
	wantScriptCode(t, "find", impl.StepScript(w, "find 1 0,0,0 1"), impl.ErrMany)
	wantRun(t, w, "drain\nsync 1\nshow\nask drop 1 by 9 1\ndrain\n")
}

// A line with a code leaves the world as it was, and the lines behind it go on from there.
func TestLinesWithCodesInScripts(t *testing.T) {
	w := impl.NewWorld(3).World
	wrong := []string{"wink", "sync 9", "sync 01", "hear 0", "ask drop 0 by 1 1", "ack 1", "tick 101", "join 1", "read 1 0", "finish 1 1", "remove 9", "show 1", "crash 1 1", "lose 0", "start 1", "\tsync 1", "sync 1\r"}
	for _, line := range wrong {
		code := impl.StepScript(w, line).Code
		if code == impl.OK {
			t.Fatalf("%q has no code", line)
		}
		said := fmt.Sprintf("! %d\n", code)
		wantScript(t, line, impl.RunScript(w, line), impl.ScriptResult{World: w, Said: said})
		right := "ask put 5 1,2,3 by 1 2\nsync 1\n"
		for _, text := range []string{line + "\n" + right, right + line + "\n", right + line, "ask put 5 1,2,3 by 1 2\n" + line + "\nsync 1\n"} {
			got := wantRun(t, w, text)
			if line == "crash 1 1" && text[0] == 'a' {
				continue
			}
			want := impl.SyncWorld(impl.AskWorld(w, putOf(5, 1, 2, 1, 2, 3)).World, 1).World
			if !alikeWorld(got.World, want) || strings.Count(got.Said, "ok\n") != 2 || strings.Count(got.Said, "! ") != 1 || len(got.Said) != 6+len(said) {
				t.Fatalf("%q: %+v", text, got)
			}
		}
	}
	all := wantRun(t, w, strings.Join(wrong, "\n"))
	if !alikeWorld(all.World, w) || strings.Count(all.Said, "! ") != len(wrong) {
		t.Errorf("%+v", all)
	}
	if said := wantRun(t, longWorld(), "read 3 1\n").Said; said != "! 10\n" {
		t.Errorf("a code of two digits is said as %q", said)
	}
}

// A line feed stands behind what is said just where it is not there, and not where nothing is said.
func TestLineFeedsOfWhatIsSaid(t *testing.T) {
	w := impl.NewWorld(1).World
	shown := textOfWorld(w)
	for text, said := range map[string]string{
		"": "", "\n": "", " \n": "", "\n\n\n": "", "show": shown, "show\n": shown, "show\n\nshow": shown + shown, "drain": "idle\n", "drain\ndrain": "idle\nidle\n", "drain\n\ndrain\n": "idle\nidle\n",
		"\nshow": shown, "beat 9": "! 4\n", "\n \nbeat 9\n\n": "! 4\n", "drain\nshow\nwink\n": "idle\n" + shown + "! 5\n",
	} {
		wantScript(t, fmt.Sprintf("RunScript of %q", text), impl.RunScript(w, text), impl.ScriptResult{World: w, Said: said})
	}
}

// A text may have exactly 60 lines, with and without a line feed at its end.
func TestScriptsOfSixtyLines(t *testing.T) {
	w := impl.NewWorld(2).World
	for _, line := range []string{"", " ", "tick 1", "show", "wink", "beat 2"} {
		for count := range 61 {
			text := strings.Repeat(line+"\n", count)
			got := wantRun(t, w, text)
			if line == "tick 1" && (got.World.Now != int64(count) || got.Said != strings.Repeat("ok\n", count)) {
				t.Fatalf("%d lines: %+v", count, got)
			}
			if count > 0 {
				wantRun(t, w, strings.TrimSuffix(text, "\n"))
			}
			if count < 60 {
				wantRun(t, w, text+"tick 2")
			}
		}
	}
	last := strings.Repeat("tick 1\n", 59) + "tick 2"
	if got := impl.RunScript(w, last); got.World.Now != 61 {
		t.Errorf("60 lines without a line feed at their end: %+v", got)
	}
	if got := impl.RunScript(w, last+"\n"); got.World.Now != 61 {
		t.Errorf("60 lines: %+v", got)
	}
}

// A text may have exactly 1500 bytes, with and without a line feed at its end.
func TestScriptsOfManyBytes(t *testing.T) {
	w := impl.NewWorld(2).World
	for size := 1490; size <= 1500; size++ {
		for _, last := range []string{"tick 1", "tick 1\n", "\n", "ü", "show"} {
			text := "tick 3\n" + strings.Repeat(" ", size-7-len(last)) + last
			got := wantRun(t, w, text)
			if len(text) != size || got.Code != impl.OK || got.World.Now < 3 {
				t.Fatalf("%d bytes: %+v", len(text), got)
			}
		}
	}
}

// P17: a script that is cut behind a line feed does in two parts what it does in one, wherever it is cut; and so do its lines one by one.
func TestScriptsInTwoParts(t *testing.T) {
	from := rand.New(rand.NewSource(103))
	cuts := 0
	for round := range int64(60) {
		w := impl.NewWorld(1 + round%5).World
		for range 4 {
			text := someScript(from, w, 30)
			if from.Intn(3) == 0 {
				text += someLine(from, w)
			}
			if len(text) > 1500 {
				continue
			}
			whole := wantRun(t, w, text)
			for at := 0; at <= len(text); at++ {
				if at > 0 && at < len(text) && text[at-1] != '\n' {
					continue
				}
				first := impl.RunScript(w, text[:at])
				second := impl.RunScript(first.World, text[at:])
				second.Said = first.Said + second.Said
				wantScript(t, fmt.Sprintf("%q in two parts", text), second, whole)
				cuts++
			}
			w = whole.World
		}
	}
	if cuts < 2000 {
		t.Errorf("%d cuts", cuts)
	}
}

// P17: many scripts do and say line by line what they should, with each command among them.
func TestManyScripts(t *testing.T) {
	from := rand.New(rand.NewSource(104))
	met := map[string]int{}
	for round := range int64(150) {
		w := impl.NewWorld(1 + round%5).World
		for range 5 {
			text := someScript(from, w, 40)
			for _, one := range linesIn(text) {
				if step := impl.StepScript(w, one); step.Code == impl.OK {
					wantScript(t, one, step, shouldSay(w, one))
					words := append(impl.WordsOf(one).Words, "no words")
					met[words[0]]++
					w = step.World
				}
			}
			w = wantRun(t, w, someScript(from, w, 20)).World
		}
	}
	for _, word := range []string{"ask", "send", "ack", "hear", "sync", "crash", "start", "tick", "beat", "remove", "join", "lose", "finish", "drain", "read", "find", "show", "no words"} {
		if met[word] < 15 {
			t.Errorf("%s was met %d times", word, met[word])
		}
	}
}

// P16 by lines: what scripts leave of a new world is one story.
func TestScriptsAreOneStory(t *testing.T) {
	from := rand.New(rand.NewSource(105))
	for round := range int64(60) {
		w := impl.NewWorld(1 + round%5).World
		for w.Events <= 60 {
			w = impl.RunScript(w, someScript(from, w, 12)).World
			wantAudit(t, "a world behind a script", w, true, true, true)
		}
	}
}

// P1: what is asked again is answered again, whatever was changed in the answer.
func TestScriptsAnswerAgain(t *testing.T) {
	w := storyWorld()
	text := "read 1 5\nask drop 5 by 9 1\nshow\nsend 1 1\nwink\n\ndrain\n"
	for range 3 {
		got := wantRun(t, w, text)
		scribbleWorld(&got.World)
		for _, one := range []string{"", "show", "drain", "read 1 5", "ask drop 5 by 9 1"} {
			step := wantLine(t, w, one)
			scribbleWorld(&step.World)
		}
	}
}
