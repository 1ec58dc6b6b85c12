package tests

import (
	"fmt"
	"math/rand"
	"regexp"
	"strconv"
	"strings"
	"testing"

	"loop.example/g00357/impl"
)

// What each line and each script should do and say, worked out apart from the program.

func alikeScript(a, b impl.ScriptResult) bool {
	return a.Code == b.Code && a.Said == b.Said && alikeWorld(a.World, b.World)
}

// wantScript holds a whole answer against what it should be; a world that is told has no fault.
func wantScript(t *testing.T, what string, got, want impl.ScriptResult) {
	t.Helper()
	if !alikeScript(got, want) {
		t.Fatalf("%s:\n%+v, want\n%+v", what, got, want)
	}
	if code := impl.WorldFault(got.World); got.Code == impl.OK && code != impl.OK {
		t.Fatalf("%s: %+v has the fault %d", what, got.World, code)
	}
}

func wantScriptCode(t *testing.T, what string, got impl.ScriptResult, code int64) {
	t.Helper()
	wantScript(t, what, got, impl.ScriptResult{Code: code})
}

func wantTextCode(t *testing.T, what string, got impl.TextResult, code int64) {
	t.Helper()
	if got != (impl.TextResult{Code: code}) {
		t.Fatalf("%s: %+v, want the code %d alone", what, got, code)
	}
}

// textOfAnswer is written out as the document tells it, not as the program does.
func textOfAnswer(at int64, vec []int64, hits []impl.Hit) string {
	text := fmt.Sprintf("at %d", at)
	if len(vec) > 0 {
		text += fmt.Sprintf(" %d,%d,%d", vec[0], vec[1], vec[2])
	}
	for _, h := range hits {
		text += fmt.Sprintf(" #%d %d", h.Id, h.Score)
	}
	if len(vec) == 0 && len(hits) == 0 {
		text += " none"
	}
	return text
}

func textOfNode(n impl.Node) string {
	standing := map[bool]string{true: "up", false: "down"}[n.Up]
	return fmt.Sprintf("node %d %s %d %d %d %d %d\n", n.Id, standing, n.Epoch, n.Lease, len(n.Writes), n.Sure, n.Clean)
}

func textOfWorld(w impl.World) string {
	text := fmt.Sprintf("now %d epoch %d :", w.Now, w.Chain.Epoch)
	for _, id := range w.Chain.Ids {
		text += fmt.Sprintf(" %d", id)
	}
	text += "\n"
	for _, n := range w.Nodes {
		text += textOfNode(n)
	}
	for _, m := range w.Msgs {
		text += "msg " + textOfMsg(m) + "\n"
	}
	return text
}

func sayStep(r impl.WorldResult) impl.ScriptResult {
	if r.Code != impl.OK {
		return impl.ScriptResult{Code: r.Code}
	}
	return impl.ScriptResult{World: r.World, Said: map[bool]string{true: "ok", false: "idle"}[r.Moved]}
}

func sayAnswer(r impl.AnswerResult) impl.ScriptResult {
	if r.Code != impl.OK {
		return impl.ScriptResult{Code: r.Code}
	}
	return impl.ScriptResult{World: r.World, Said: textOfAnswer(r.At, r.Vec, r.Hits)}
}

// line is what a line of one form does: by what should be done, and by the program's own function.
type line struct {
	form   string
	should func(w impl.World, n []int64) impl.ScriptResult
	does   func(w impl.World, n []int64) impl.ScriptResult
}

// lineForms are those in which numbers stand alone.
func lineForms() []line {
	type world = impl.World
	type number = []int64
	step := func(form string, should, does func(w world, n number) impl.WorldResult) line {
		return line{form, func(w world, n number) impl.ScriptResult { return sayStep(should(w, n)) }, func(w world, n number) impl.ScriptResult { return sayStep(does(w, n)) }}
	}
	return []line{
		step("send N N", func(w world, n number) impl.WorldResult { return shouldSend(w, n[0], n[1]) }, func(w world, n number) impl.WorldResult { return impl.SendWorld(w, n[0], n[1]) }),
		step("ack N", func(w world, n number) impl.WorldResult { return shouldAck(w, n[0]) }, func(w world, n number) impl.WorldResult { return impl.AckWorld(w, n[0]) }),
		step("hear N", func(w world, n number) impl.WorldResult { return shouldHear(w, n[0]) }, func(w world, n number) impl.WorldResult { return impl.HearWorld(w, n[0]) }),
		step("sync N", func(w world, n number) impl.WorldResult { return shouldSync(w, n[0]) }, func(w world, n number) impl.WorldResult { return impl.SyncWorld(w, n[0]) }),
		step("crash N N", func(w world, n number) impl.WorldResult { return shouldCrash(w, n[0], n[1]) }, func(w world, n number) impl.WorldResult { return impl.CrashWorld(w, n[0], n[1]) }),
		step("start N", func(w world, n number) impl.WorldResult { return shouldStart(w, n[0]) }, func(w world, n number) impl.WorldResult { return impl.StartWorld(w, n[0]) }),
		step("tick N", func(w world, n number) impl.WorldResult { return shouldTick(w, n[0]) }, func(w world, n number) impl.WorldResult { return impl.TickWorld(w, n[0]) }),
		step("beat N", func(w world, n number) impl.WorldResult { return shouldBeat(w, n[0]) }, func(w world, n number) impl.WorldResult { return impl.BeatWorld(w, n[0]) }),
		step("remove N", func(w world, n number) impl.WorldResult { return shouldRemove(w, n[0]) }, func(w world, n number) impl.WorldResult { return impl.RemoveWorld(w, n[0]) }),
		step("join N", func(w world, n number) impl.WorldResult { return shouldJoin(w, n[0]) }, func(w world, n number) impl.WorldResult { return impl.JoinWorld(w, n[0]) }),
		step("lose N", func(w world, n number) impl.WorldResult { return shouldLose(w, n[0]) }, func(w world, n number) impl.WorldResult { return impl.LoseWorld(w, n[0]) }),
		step("finish N N", func(w world, n number) impl.WorldResult { return shouldFinish(w, n[0], n[1]) }, func(w world, n number) impl.WorldResult { return impl.FinishWorld(w, n[0], n[1]) }),
		step("drain", func(w world, n number) impl.WorldResult { return shouldDrain(w) }, func(w world, n number) impl.WorldResult { return impl.DrainWorld(w) }),
		{"read N N", func(w world, n number) impl.ScriptResult { return sayAnswer(shouldRead(w, n[0], n[1])) }, func(w world, n number) impl.ScriptResult { return sayAnswer(impl.ReadWorld(w, n[0], n[1])) }},
		{"show", sayShow, sayShow},
	}
}

func sayShow(w impl.World, n []int64) impl.ScriptResult {
	return impl.ScriptResult{World: cloneWorld(w), Said: textOfWorld(w)}
}

// lineOf is a line of a form with these numbers.
func lineOf(form string, numbers ...int64) string {
	for _, n := range numbers {
		form = strings.Replace(form, "N", strconv.FormatInt(n, 10), 1)
	}
	return form
}

// patternOf takes a line of a form, with what blanks there may be.
func patternOf(form string) *regexp.Regexp {
	form = strings.ReplaceAll(form, "N", "(0|[1-9][0-9]{0,3})")
	form = strings.ReplaceAll(form, "V", "([^ ]+)")
	return regexp.MustCompile("^ *" + strings.ReplaceAll(form, " ", " +") + " *\\z")
}

type readForm struct {
	line
	pattern *regexp.Regexp
}

// The patterns are kept: to make one takes longer than to read a line.
var readForms = func() []readForm {
	var list []readForm
	for _, one := range lineForms() {
		list = append(list, readForm{one, patternOf(one.form)})
	}
	return list
}()
var findPattern = patternOf("find N V N")
var askPattern = regexp.MustCompile("^ *ask +([^ ].*?) *\\z")
var blanksPattern = regexp.MustCompile(" +")

func numbersOf(words []string) []int64 {
	var list []int64
	for _, word := range words {
		n, _ := strconv.ParseInt(word, 10, 64)
		list = append(list, n)
	}
	return list
}

// shouldSay reads by patterns, not as the program does; w has no fault.
func shouldSay(w impl.World, text string) impl.ScriptResult {
	if strings.IndexByte(text, 10) >= 0 {
		return impl.ScriptResult{Code: impl.ErrText}
	}
	if strings.Trim(text, " ") == "" {
		return impl.ScriptResult{World: cloneWorld(w)}
	}
	for _, one := range readForms {
		if found := one.pattern.FindStringSubmatch(text); found != nil {
			return one.should(w, numbersOf(found[1:]))
		}
	}
	if found := findPattern.FindStringSubmatch(text); found != nil {
		if query := vecOfText(found[2]); query != nil {
			return sayAnswer(shouldFind(w, numbersOf(found[1:2])[0], query, numbersOf(found[3:])[0]))
		}
	}
	if found := askPattern.FindStringSubmatch(text); found != nil {
		if x, ok := writeOfText(blanksPattern.ReplaceAllString(found[1], " ")); ok {
			return sayStep(shouldAsk(w, x))
		}
	}
	return impl.ScriptResult{Code: impl.ErrText}
}

// linesIn are the lines of a text: what is behind the last line feed is one just if it is not empty.
func linesIn(text string) []string {
	list := strings.Split(text, "\n")
	if list[len(list)-1] == "" {
		list = list[:len(list)-1]
	}
	return list
}

func shouldRun(w impl.World, text string) impl.ScriptResult {
	lines := linesIn(text)
	if len(text) > 1500 || len(lines) > 60 {
		return impl.ScriptResult{Code: impl.ErrMany}
	}
	w = cloneWorld(w)
	said := ""
	for _, one := range lines {
		step := shouldSay(w, one)
		switch {
		case step.Code != impl.OK:
			said += fmt.Sprintf("! %d\n", step.Code)
			continue
		case step.Said != "":
			said += strings.TrimSuffix(step.Said, "\n") + "\n"
		}
		w = step.World
	}
	return impl.ScriptResult{World: w, Said: said}
}

// wantLine holds a line against what it should do.
func wantLine(t *testing.T, w impl.World, text string) impl.ScriptResult {
	t.Helper()
	got := impl.StepScript(w, text)
	wantScript(t, fmt.Sprintf("StepScript of %q", text), got, shouldSay(w, text))
	return got
}

// wantRun holds a script against what it should do.
func wantRun(t *testing.T, w impl.World, text string) impl.ScriptResult {
	t.Helper()
	got := impl.RunScript(w, text)
	wantScript(t, fmt.Sprintf("RunScript of %q", text), got, shouldRun(w, text))
	return got
}

// someNumbers are most often of a node, a place or a write that is there.
func someNumbers(from *rand.Rand, w impl.World, form string) []int64 {
	id := someId(from, w)
	switch form {
	case "send N N":
		count := int64(0)
		if 1 <= id && id < int64(len(w.Nodes)) {
			count = int64(len(w.Nodes[id].Writes))
		}
		return []int64{id, count + from.Int63n(2)}
	case "hear N", "lose N":
		return []int64{max(0, int64(len(w.Msgs))-from.Int63n(4))}
	case "tick N":
		return []int64{max(0, someSpan(from))}
	case "crash N N":
		return []int64{id, from.Int63n(3)}
	case "finish N N":
		session, seq := someTicket(from, w)
		return []int64{session, seq}
	default:
		return []int64{id, from.Int63n(11)}
	}
}

// someLine is a line that from picks: most often one that can be read.
func someLine(from *rand.Rand, w impl.World) string {
	switch pick := from.Intn(30); {
	case pick < 6:
		return "ask " + textOfWrite(someAsk(from, w))
	case pick < 8:
		query := someQuery(from)
		return fmt.Sprintf("find %d %d,%d,%d %d", someId(from, w), query[0], query[1], query[2], from.Int63n(23))
	case pick == 8:
		return []string{"", "  ", "wink", "tick 01", "show 1", "ask put 1 2,3 by 1 1", "beat", "find 1 0,0,0"}[from.Intn(8)]
	default:
		one := lineForms()[from.Intn(len(lineForms()))]
		return lineOf(one.form, someNumbers(from, w, one.form)[:strings.Count(one.form, "N")]...)
	}
}

// loosened has blanks ahead of and behind it, and more than one between its words.
func loosened(from *rand.Rand, text string) string {
	parts := strings.Split(text, " ")
	text = strings.Repeat(" ", from.Intn(3)) + parts[0]
	for _, part := range parts[1:] {
		text += strings.Repeat(" ", 1+from.Intn(3)) + part
	}
	return text + strings.Repeat(" ", from.Intn(3))
}

// someScript is one of up to so many lines, as they come to a world that they change.
func someScript(from *rand.Rand, w impl.World, most int) string {
	text := ""
	for range 1 + from.Intn(most) {
		one := someLine(from, w)
		if from.Intn(8) == 0 {
			one = loosened(from, one)
		}
		if len(text)+len(one) >= 1500 {
			break
		}
		if step := shouldSay(w, one); step.Code == impl.OK {
			w = step.World
		}
		text += one + "\n"
	}
	return text
}
