package tests

import (
	"fmt"
	"math"
	"reflect"
	"slices"
	"testing"

	"loop.example/g00357/impl"
)

// wrongWorld is no world, and has the code that is named first of it.
type wrongWorld struct {
	w    impl.World
	code int64
}

// spoilt is a way to make a world wrong, with the code that it has then. Those of one rank are asked at one time; a lower rank is asked ahead.
type spoilt struct {
	rank  int
	code  int64
	spoil func(w *impl.World)
}

func spoiltTimes() []spoilt {
	var list []spoilt
	for _, now := range append(outOf(0, 9000), 1<<32+5) {
		list = append(list, spoilt{0, impl.ErrRange, func(w *impl.World) { w.Now = now }})
	}
	for _, events := range append(outOf(0, 9999), 1<<32+500) {
		list = append(list, spoilt{0, impl.ErrRange, func(w *impl.World) { w.Events = events }})
	}
	return list
}

func spoiltChains() []spoilt {
	var list []spoilt
	for i, x := range wrongChains() {
		if i%9 == 0 {
			list = append(list, spoilt{1, x.code, func(w *impl.World) { w.Chain = x.c }})
		}
	}
	return list
}

func spoiltCounts() []spoilt {
	return []spoilt{
		{2, impl.ErrMany, func(w *impl.World) { w.Nodes = nil }},
		{2, impl.ErrMany, func(w *impl.World) { w.Nodes = []impl.Node{} }},
		{2, impl.ErrMany, func(w *impl.World) { w.Nodes = append(w.Nodes, impl.Node{Id: 6}) }},
		{2, impl.ErrMany, func(w *impl.World) { w.Nodes = append(w.Nodes, impl.NewNode(5).Node) }},
		{2, impl.ErrMany, func(w *impl.World) { w.Nodes = make([]impl.Node, 6) }},
		{2, impl.ErrMany, func(w *impl.World) { w.Nodes = make([]impl.Node, 1000) }},
	}
}

// spoiltNodes are of all five places: the rank of a later one is greater, whatever its code.
func spoiltNodes() []spoilt {
	var list []spoilt
	for i, x := range wrongNodes() {
		if place := i % 5; i%11 == 0 {
			list = append(list, spoilt{3 + place, x.code, func(w *impl.World) { w.Nodes[place] = x.n }})
		}
	}
	for place := range 5 {
		for id := int64(1); id <= 5; id++ {
			if id != int64(place)+1 {
				list = append(list, spoilt{3 + place, impl.ErrForm, func(w *impl.World) { w.Nodes[place].Id = id }})
				list = append(list, spoilt{3 + place, impl.ErrForm, func(w *impl.World) { w.Nodes[place].Id, w.Nodes[place].Epoch = id, 999 }})
			}
		}
		for _, epoch := range []int64{8, 9, 500, 999} {
			list = append(list, spoilt{3 + place, impl.ErrOld, func(w *impl.World) { w.Nodes[place].Epoch = epoch }})
		}
	}
	for _, place := range []int{1, 3, 4} {
		for _, epoch := range []int64{0, 1, 6} {
			list = append(list, spoilt{3 + place, impl.ErrOld, func(w *impl.World) { w.Nodes[place].Epoch = epoch }})
		}
	}
	return list
}

// spoiltIds leave out nodes that the chain has.
func spoiltIds() []spoilt {
	return []spoilt{
		{8, impl.ErrNone, func(w *impl.World) { w.Nodes = w.Nodes[:4] }},
		{8, impl.ErrNone, func(w *impl.World) { w.Nodes = w.Nodes[:3] }},
		{8, impl.ErrNone, func(w *impl.World) { w.Nodes = w.Nodes[:2] }},
		{8, impl.ErrNone, func(w *impl.World) { w.Nodes = w.Nodes[:1] }},
	}
}

func spoiltNets() []spoilt {
	var list []spoilt
	for i, x := range wrongNets() {
		if i%7 == 0 || i < 3 {
			list = append(list, spoilt{9, x.code, func(w *impl.World) { w.Msgs = x.list }})
		}
	}
	return list
}

// outOfEntry are an entry with its Kind, its Start, its End or its At out of bounds, of 500 events.
func outOfEntry(e impl.Entry) []impl.Entry {
	var list []impl.Entry
	for _, kind := range append(outOf(1, 3), 1<<32+1) {
		other := e
		other.Kind = kind
		list = append(list, other)
	}
	for _, start := range append(outOf(1, 500), 1<<32+3) {
		other, another := e, e
		other.Start = start
		another.Start, another.End = start, 0
		list = append(list, other, another)
	}
	for _, end := range append(outOf(e.Start, 500), e.Start-2, 1<<32+500) {
		other := e
		other.End = end
		list = append(list, other)
	}
	for _, at := range append(outOf(0, 40), 1<<32+3) {
		other := e
		other.At = at
		list = append(list, other)
	}
	return list
}

func spoiltHistories() []spoilt {
	list := []spoilt{
		{10, impl.ErrMany, func(w *impl.World) { w.History = fullHistory(61) }},
		{10, impl.ErrMany, func(w *impl.World) { w.History = make([]impl.Entry, 61) }},
		{10, impl.ErrMany, func(w *impl.World) { w.History = append(fullHistory(60), impl.Entry{}) }},
		{11, impl.ErrRange, func(w *impl.World) { w.History = make([]impl.Entry, 60) }},
		{11, impl.ErrRange, func(w *impl.World) { w.History = make([]impl.Entry, 1) }},
	}
	for i, e := range fullHistory(60) {
		if e.Start < 3 {
			continue
		}
		for j, other := range outOfEntry(e) {
			if (i+j)%7 == 0 {
				list = append(list, spoilt{11, impl.ErrRange, func(w *impl.World) { w.History = fullHistory(60); w.History[i] = other }})
			}
		}
	}
	return list
}

func allSpoilt() []spoilt {
	return slices.Concat(spoiltTimes(), spoiltChains(), spoiltCounts(), spoiltNodes(), spoiltIds(), spoiltNets(), spoiltHistories())
}

// fewSpoilt are of each rank, and of each code.
func fewSpoilt() []spoilt {
	var list []spoilt
	met := map[[2]int64]int{}
	for _, s := range allSpoilt() {
		key := [2]int64{int64(s.rank), s.code}
		if met[key]++; met[key] <= 2 {
			list = append(list, s)
		}
	}
	return list
}

// goTogether: first is asked ahead, and may be so where second is; of nodes that are left out just the first one is there in any case.
func goTogether(first, second spoilt) bool {
	return first.rank < second.rank && (second.rank != 8 || first.rank < 2 || first.rank == 3)
}

// wrongWorlds are wrong in one thing, or in two: then what is asked ahead is told.
func wrongWorlds() []wrongWorld {
	var list []wrongWorld
	for _, s := range allSpoilt() {
		w := longWorld()
		s.spoil(&w)
		list = append(list, wrongWorld{w, s.code})
	}
	few := fewSpoilt()
	for _, first := range few {
		for _, second := range few {
			if goTogether(first, second) {
				w := longWorld()
				second.spoil(&w)
				first.spoil(&w)
				list = append(list, wrongWorld{w, first.code})
			}
		}
	}
	return append(list, wrongWorld{impl.World{}, impl.ErrRange}, wrongWorld{impl.World{Chain: chainOf(1, 1)}, impl.ErrMany})
}

// fewWrongWorlds are of each code.
func fewWrongWorlds() []wrongWorld {
	var list []wrongWorld
	met := map[int64]int{}
	for _, x := range wrongWorlds() {
		if met[x.code]++; met[x.code]%40 == 1 {
			list = append(list, x)
		}
	}
	return list
}

// stepsOf are all steps with a world, of a write and numbers that may be wrong.
func stepsOf(w impl.World, x impl.Write, id, number int64) map[string]impl.WorldResult {
	return map[string]impl.WorldResult{
		"AskWorld":   impl.AskWorld(w, x),
		"SendWorld":  impl.SendWorld(w, id, number),
		"AckWorld":   impl.AckWorld(w, id),
		"HearWorld":  impl.HearWorld(w, number),
		"SyncWorld":  impl.SyncWorld(w, id),
		"CrashWorld": impl.CrashWorld(w, id, number),
		"StartWorld": impl.StartWorld(w, id),
	}
}

func TestWrongNewWorlds(t *testing.T) {
	for _, n := range append(outOfNode(), 0, 6) {
		wantWorldCode(t, "NewWorld", impl.NewWorld(n), impl.ErrRange)
	}
}

// P1: what is wrong with a world is told ahead of all that is wrong beside it, and all else is zero.
func TestWrongWorlds(t *testing.T) {
	codes := map[int64]int{}
	for _, x := range wrongWorlds() {
		codes[x.code]++
		if code := impl.WorldFault(x.w); code != x.code {
			t.Fatalf("WorldFault(%+v) = %d, want %d", x.w, code, x.code)
		}
	}
	for _, code := range []int64{impl.ErrForm, impl.ErrMany, impl.ErrRange, impl.ErrNone, impl.ErrTaken, impl.ErrOld} {
		if codes[code] == 0 {
			t.Errorf("the code %d was not asked", code)
		}
	}
	for _, x := range fewWrongWorlds() {
		for _, id := range []int64{1, 3, 5, 0, 6, math.MinInt64, math.MaxInt64} {
			for _, number := range []int64{0, 1, -1, 41, math.MaxInt64} {
				for _, write := range []impl.Write{{}, dropOf(1, 9, 999)} {
					for what, got := range stepsOf(x.w, write, id, number) {
						wantWorldCode(t, what+" of a wrong world", got, x.code)
					}
				}
			}
		}
	}
}

// Nodes of an older Epoch are no fault where they are out of the chain, or down; nobody else may be so.
func TestEpochsOfNodes(t *testing.T) {
	for epoch := range int64(12) {
		for place := range 5 {
			for _, up := range []bool{true, false} {
				w := longWorld()
				n := startedOf(syncedOf(nodeIn(w, int64(place+1))))
				n.Epoch = epoch
				if !up {
					n = crashedOf(n, int64(len(n.Writes)))
				}
				isTold := up && (place == 1 || place == 3 || place == 4)
				want := int64(impl.OK)
				if epoch > 7 || isTold && epoch != 7 {
					want = impl.ErrOld
				}
				if code := impl.WorldFault(withNode(w, n)); code != want {
					t.Fatalf("of the Epoch %d, up %t, at %d: %d, want %d", epoch, up, place, code, want)
				}
			}
		}
	}
}

// Now, Events and entries at their bounds are fine; what an entry tells is not asked.
func TestWorldsAtTheirBounds(t *testing.T) {
	for _, now := range []int64{0, 1, 8999, 9000} {
		w := longWorld()
		w.Now = now
		w.History = append(w.History, impl.Entry{Kind: 3, Session: -1, Seq: math.MaxInt64, Id: -7, K: math.MinInt64, Start: 500, End: 500, At: 40, Query: make([]int64, 99), Vec: []int64{math.MinInt64}, Hits: make([]impl.Hit, 99)})
		if code := impl.WorldFault(w); code != impl.OK {
			t.Errorf("WorldFault at %d: %d", now, code)
		}
		want := eventOf(withNode(w, syncedOf(nodeIn(w, 2))))
		wantMoved(t, "SyncWorld", impl.SyncWorld(w, 2), want)
	}
	for events := range int64(4) {
		for start := range int64(6) {
			for end := range int64(6) {
				w := impl.NewWorld(1).World
				w.Events, w.History = events, []impl.Entry{{Kind: 2, Start: start, End: end}}
				want := int64(impl.OK)
				if start < 1 || start > events || end != 0 && (end < start || end > events) {
					want = impl.ErrRange
				}
				if code := impl.WorldFault(w); code != want {
					t.Errorf("from %d to %d of %d events: %d, want %d", start, end, events, code, want)
				}
			}
		}
	}
	w := impl.World{Now: 1, Chain: chainOf(1, 1), Nodes: impl.NewWorld(5).World.Nodes, Msgs: []impl.Msg{}, History: []impl.Entry{}}
	if code := impl.WorldFault(w); code != impl.OK {
		t.Errorf("WorldFault of a chain of one among five = %d", code)
	}
}

// An id that is no node's is told ahead of that there are all events, and that ahead of all that a step asks itself.
func TestIdsAndEventsOfWorlds(t *testing.T) {
	for _, w := range []impl.World{longWorld(), fullWorld(), impl.NewWorld(1).World, impl.NewWorld(4).World} {
		count := int64(len(w.Nodes))
		for _, events := range []int64{500, 9998, 9999} {
			w.Events = events
			for _, id := range append(outOf(1, count), count+2, 1<<32+1, -1<<32+1) {
				if id >= 1 && id <= count {
					continue
				}
				for _, number := range []int64{0, 1, -1, 41} {
					for what, got := range stepsOf(w, impl.Write{}, id, number) {
						if what != "AskWorld" && what != "HearWorld" {
							wantWorldCode(t, what+" of no node", got, impl.ErrNone)
						}
					}
				}
			}
		}
		w.Events = 9999
		for id := int64(1); id <= count; id++ {
			for _, x := range []impl.Write{{}, dropOf(1, 9, 999), fullWrites(1)[0]} {
				for _, number := range []int64{0, 1, -1, 41, math.MinInt64} {
					for what, got := range stepsOf(w, x, id, number) {
						wantWorldCode(t, what+" where there are 9999 events", got, impl.ErrMany)
					}
				}
			}
		}
	}
}

// The write's own fault is told ahead of a head that is down, and that ahead of what the head tells, and that ahead of the room for an entry.
func TestWrongAsks(t *testing.T) {
	up := longWorld()
	up.History = fullHistory(60)
	down := withNode(up, crashedOf(nodeIn(up, 4), 10))
	for _, x := range wrongWrites() {
		wantWorldCode(t, "AskWorld, write wrong", impl.AskWorld(up, x.w), x.code)
		wantWorldCode(t, "AskWorld, write wrong, the head down", impl.AskWorld(down, x.w), x.code)
	}
	skipped, more := dropOf(1, 1, 5), dropOf(1, 1, 999)
	for _, x := range []impl.Write{skipped, more, fullWrites(1)[0]} {
		wantWorldCode(t, "AskWorld, the head down", impl.AskWorld(down, x), impl.ErrDown)
	}
	wantWorldCode(t, "AskWorld of an old one", impl.AskWorld(up, skipped), impl.ErrOld)
	wantWorldCode(t, "AskWorld, no room for an entry", impl.AskWorld(up, more), impl.ErrMany)
	full := fullWorld()
	full.History = nil
	wantWorldCode(t, "AskWorld of a full head", impl.AskWorld(full, dropOf(1, 1, 999)), impl.ErrMany)
	wantWorldCode(t, "AskWorld of an old one, the head full", impl.AskWorld(full, dropOf(1, 1, 2)), impl.ErrOld)
	wantMoved(t, "AskWorld of one that is there, the head full", impl.AskWorld(full, full.Nodes[2].Writes[39]), shouldAsk(full, full.Nodes[2].Writes[39]).World)
}

// wrongIndexesOf are no index of what is sure.
func wrongIndexesOf(sure int64) []int64 {
	return append(outOf(1, sure), sure+2, 41, 1<<32+1, -1<<32+1)
}

// Who is no member is told ahead of who is the tail or the head, and that ahead of the index, and that ahead of the room.
func TestWrongSends(t *testing.T) {
	for _, msgs := range [][]impl.Msg{nil, fullMsgs(40)} {
		w := withMsgs(longWorld(), msgs)
		down := w
		for _, id := range []int64{2, 4, 5} {
			down = withNode(down, crashedOf(nodeIn(down, id), int64(len(nodeIn(down, id).Writes))))
		}
		for _, number := range []int64{0, 1, -1, 3, 41, math.MinInt64, math.MaxInt64} {
			for _, id := range []int64{1, 3} {
				wantWorldCode(t, "SendWorld by one out of the chain", impl.SendWorld(w, id, number), impl.ErrDown)
				wantWorldCode(t, "AckWorld by one out of the chain", impl.AckWorld(w, id), impl.ErrDown)
			}
			for id := int64(1); id <= 5; id++ {
				wantWorldCode(t, "SendWorld by one that is down", impl.SendWorld(down, id, number), impl.ErrDown)
				wantWorldCode(t, "AckWorld by one that is down", impl.AckWorld(down, id), impl.ErrDown)
			}
			wantWorldCode(t, "SendWorld by the tail", impl.SendWorld(w, 5, number), impl.ErrState)
		}
		wantWorldCode(t, "AckWorld by the head", impl.AckWorld(w, 4), impl.ErrState)
		for _, x := range [][2]int64{{4, 9}, {2, 6}} {
			for _, index := range wrongIndexesOf(x[1]) {
				if index < 1 || index > x[1] {
					wantWorldCode(t, "SendWorld, index wrong", impl.SendWorld(w, x[0], index), impl.ErrRange)
				}
			}
		}
	}
}

func TestWrongPlacesOfWorlds(t *testing.T) {
	for _, msgs := range [][]impl.Msg{nil, {}, fullMsgs(1), fullMsgs(40)} {
		w := withMsgs(longWorld(), msgs)
		count := int64(len(msgs))
		for _, at := range []int64{count, count + 1, -1, -count - 1, 41, 1 << 32, 1<<32 + count - 1, -1 << 32, math.MinInt64, math.MaxInt64} {
			wantWorldCode(t, "HearWorld, at wrong", impl.HearWorld(w, at), impl.ErrRange)
		}
		for at := range count {
			wantStep(t, "HearWorld", impl.HearWorld(w, at), shouldHear(w, at))
		}
	}
}

// A node that is down is neither synced nor crashed, and one that is Up is not started, in the chain or out of it.
func TestWrongStates(t *testing.T) {
	w := longWorld()
	for id := int64(1); id <= 5; id++ {
		n := nodeIn(w, id)
		if n.Up {
			wantWorldCode(t, "StartWorld of one that is Up", impl.StartWorld(w, id), impl.ErrState)
			loose := int64(len(n.Writes)) - n.Sure
			for _, kept := range append(outOf(0, loose), loose+2, 41, 1<<32+loose) {
				if kept < 0 || kept > loose {
					wantWorldCode(t, "CrashWorld, kept wrong", impl.CrashWorld(w, id, kept), impl.ErrRange)
				}
			}
		}
		down := withNode(w, crashedOf(n, int64(len(n.Writes))))
		wantWorldCode(t, "SyncWorld of one that is down", impl.SyncWorld(down, id), impl.ErrDown)
		for _, kept := range []int64{0, 1, -1, 41, math.MinInt64, math.MaxInt64} {
			wantWorldCode(t, "CrashWorld of one that is down", impl.CrashWorld(down, id, kept), impl.ErrDown)
		}
	}
}

// roomy is v again, of memory of its own, with room behind each list, in which something stands.
func roomy(v reflect.Value) reflect.Value {
	again := reflect.New(v.Type()).Elem()
	again.Set(v)
	switch v.Kind() {
	case reflect.Struct:
		for i := range v.NumField() {
			again.Field(i).Set(roomy(v.Field(i)))
		}
	case reflect.Slice:
		list := reflect.MakeSlice(v.Type(), v.Len(), v.Len()+3)
		for i := range v.Len() {
			list.Index(i).Set(roomy(v.Index(i)))
		}
		for i := v.Len(); i < list.Cap(); i++ {
			scribbled(list.Slice(0, list.Cap()).Index(i))
		}
		again.Set(list)
	}
	return again
}

// scribbled writes over all numbers of v, those of its lists and of the room behind them too.
func scribbled(v reflect.Value) {
	switch v.Kind() {
	case reflect.Int64:
		v.SetInt(88)
	case reflect.Bool:
		v.SetBool(!v.Bool())
	case reflect.Struct:
		for i := range v.NumField() {
			scribbled(v.Field(i))
		}
	case reflect.Slice:
		for i := range v.Cap() {
			scribbled(v.Slice(0, v.Cap()).Index(i))
		}
	}
}

// told is all of v as a text, the room behind its lists too.
func told(v reflect.Value) string {
	switch v.Kind() {
	case reflect.Struct:
		text := ""
		for i := range v.NumField() {
			text += told(v.Field(i)) + ";"
		}
		return text
	case reflect.Slice:
		text := fmt.Sprint(v.Len(), "[")
		for i := range v.Cap() {
			text += told(v.Slice(0, v.Cap()).Index(i)) + ","
		}
		return text + "]"
	}
	return fmt.Sprint(v.Interface())
}

func roomyWorld(w impl.World) impl.World {
	return roomy(reflect.ValueOf(w)).Interface().(impl.World)
}

func scribbleWorld(w *impl.World) {
	scribbled(reflect.ValueOf(w).Elem())
}

// span is the memory of one list, from its first byte to the one behind its room.
type span struct {
	from, to uintptr
}

// spansOf are those of all lists in v, that have any.
func spansOf(v reflect.Value) []span {
	var list []span
	switch v.Kind() {
	case reflect.Struct:
		for i := range v.NumField() {
			list = append(list, spansOf(v.Field(i))...)
		}
	case reflect.Slice:
		if size := uintptr(v.Cap()) * v.Type().Elem().Size(); size > 0 {
			list = append(list, span{v.Pointer(), v.Pointer() + size})
		}
		for i := range v.Len() {
			list = append(list, spansOf(v.Index(i))...)
		}
	}
	return list
}

// wantOwnMemory: no two lists of the answer share any memory, and none shares any with an argument.
func wantOwnMemory(t *testing.T, what string, answer any, arguments ...any) {
	t.Helper()
	own := spansOf(reflect.ValueOf(answer))
	all := slices.Clone(own)
	for _, v := range arguments {
		all = append(all, spansOf(reflect.ValueOf(v))...)
	}
	for i, a := range own {
		for _, b := range all[i+1:] {
			if a.from < b.to && b.from < a.to {
				t.Fatalf("%s: %+v shares memory", what, answer)
			}
		}
	}
}

// ownSteps are steps with w, most of them without a code, each with the write that it was handed.
func ownSteps(w impl.World, x impl.Write) map[string]impl.WorldResult {
	steps := map[string]impl.WorldResult{
		"AskWorld, new":   impl.AskWorld(w, x),
		"AskWorld, other": impl.AskWorld(w, impl.Write{Kind: 1, Id: 3, Vec: w.Chain.Ids[:min(3, len(w.Chain.Ids))], Session: 9, Seq: 998}),
		"NewWorld":        impl.NewWorld(int64(len(w.Nodes))),
	}
	for _, n := range w.Nodes {
		steps[fmt.Sprint("SendWorld ", n.Id)] = impl.SendWorld(w, n.Id, n.Sure)
		steps[fmt.Sprint("AckWorld ", n.Id)] = impl.AckWorld(w, n.Id)
		steps[fmt.Sprint("SyncWorld ", n.Id)] = impl.SyncWorld(w, n.Id)
		steps[fmt.Sprint("CrashWorld ", n.Id)] = impl.CrashWorld(w, n.Id, 0)
		steps[fmt.Sprint("CrashWorld, kept ", n.Id)] = impl.CrashWorld(w, n.Id, int64(len(n.Writes))-n.Sure)
		steps[fmt.Sprint("StartWorld ", n.Id)] = impl.StartWorld(w, n.Id)
		for _, own := range n.Writes[:min(1, len(n.Writes))] {
			steps[fmt.Sprint("AskWorld, that of ", n.Id)] = impl.AskWorld(w, own)
		}
	}
	for at := range w.Msgs {
		steps[fmt.Sprint("HearWorld ", at)] = impl.HearWorld(w, int64(at))
	}
	return steps
}

// stayingWorlds are of all kinds, with a fault and without.
func stayingWorlds() []impl.World {
	list := []impl.World{longWorld(), fullWorld(), impl.NewWorld(1).World}
	for i, w := range manyWorlds() {
		if i%9 == 0 {
			list = append(list, w)
		}
	}
	return list
}

// P1: no argument is changed, not even what lies behind it, nor by a change of the answer; and the answer is new memory.
func TestWorldsStay(t *testing.T) {
	for _, was := range stayingWorlds() {
		w := roomyWorld(was)
		x := roomy(reflect.ValueOf(putOf(7, 9, 999, 4, 5, 6))).Interface().(impl.Write)
		before := told(reflect.ValueOf(w)) + told(reflect.ValueOf(x))
		impl.WorldFault(w)
		for what, got := range ownSteps(w, x) {
			wantOwnMemory(t, what, got.World, w, x)
			scribbleWorld(&got.World)
		}
		if after := told(reflect.ValueOf(w)) + told(reflect.ValueOf(x)); before != after {
			t.Fatalf("%s became %s", before, after)
		}
	}
	for i, x := range wrongWorlds() {
		if i%29 == 0 {
			w := roomyWorld(x.w)
			before := told(reflect.ValueOf(w))
			stepsOf(w, dropOf(1, 9, 999), 2, 1)
			if after := told(reflect.ValueOf(w)); before != after {
				t.Fatalf("%s became %s", before, after)
			}
		}
	}
}

// P1: the lists of an answer are apart also where those that were given were one.
func TestWorldsOfOneVector(t *testing.T) {
	one, writes := []int64{1, 2, 3}, []impl.Write{}
	for seq := int64(1); seq <= 6; seq++ {
		writes = append(writes, impl.Write{Kind: 1, Id: seq, Vec: one, Session: 1, Seq: seq})
	}
	w := impl.World{Events: 9, Chain: chainOf(1, one...)}
	for id := int64(1); id <= 3; id++ {
		w.Nodes = append(w.Nodes, impl.Node{Id: id, Up: true, Epoch: 1, Writes: writes[:7-id-id/2], Sure: 4 - id/2, Clean: 1})
	}
	hits := []impl.Hit{{Id: 1, Score: 2}}
	w.Msgs = []impl.Msg{forwardOf(1, 1, 2, 5, writes[4]), forwardOf(1, 1, 2, 6, writes[5]), ackOf(1, 3, 2, 3)}
	w.History = []impl.Entry{{Kind: 2, Start: 1, Vec: one, Query: one, Hits: hits}, {Kind: 3, Start: 1, Vec: one, Query: one, Hits: hits}}
	w.Chain.Ids = one
	if code := impl.WorldFault(w); code != impl.OK {
		t.Fatalf("%+v has the fault %d", w, code)
	}
	x := impl.Write{Kind: 1, Id: 3, Vec: one, Session: 9, Seq: 999}
	moved := 0
	for what, got := range ownSteps(w, x) {
		wantOwnMemory(t, what, got.World, w, x)
		if got.Moved {
			moved++
		}
		scribbleWorld(&got.World)
		if !slices.Equal(one, []int64{1, 2, 3}) {
			t.Fatalf("%s: what was given became %v", what, one)
		}
	}
	if moved < 12 {
		t.Errorf("only %d steps moved something", moved)
	}
}

// P1: an answer is the same whatever was called or changed ahead of it, also behind calls that told a code.
func TestWorldsAreNew(t *testing.T) {
	x := putOf(7, 9, 999, 4, 5, 6)
	want := ownSteps(longWorld(), x)
	kept := ownSteps(longWorld(), x)
	for _, got := range ownSteps(longWorld(), x) {
		scribbleWorld(&got.World)
	}
	spoiled := longWorld()
	again := ownSteps(spoiled, x)
	scribbleWorld(&spoiled)
	for what, got := range want {
		if !alikeStep(kept[what], got) || !alikeStep(again[what], got) {
			t.Errorf("%s: %+v became %+v and %+v", what, got, kept[what], again[what])
		}
	}
}

// P1: two answers from one world stay apart, also where each has one write, one message and one entry more.
func TestWorldsThatPart(t *testing.T) {
	w := impl.SyncWorld(impl.AskWorld(longWorld(), putOf(7, 9, 998, 4, 5, 6)).World, 4).World
	was := cloneWorld(w)
	left, right := impl.AskWorld(w, putOf(1, 9, 999, 1, 1, 1)), impl.AskWorld(w, putOf(2, 8, 999, 2, 2, 2))
	wantStep(t, "AskWorld", left, shouldAsk(was, putOf(1, 9, 999, 1, 1, 1)))
	wantStep(t, "AskWorld", right, shouldAsk(was, putOf(2, 8, 999, 2, 2, 2)))
	to, by := impl.SendWorld(w, 4, 1), impl.AckWorld(w, 2)
	wantStep(t, "SendWorld", to, shouldSend(was, 4, 1))
	wantStep(t, "AckWorld", by, shouldAck(was, 2))
	if !alikeWorld(w, was) {
		t.Errorf("%+v became %+v", was, w)
	}
}

// P1: calls at the same time keep nothing that another one could see, also where some of them tell a code (a run with -race tells of it as well).
func TestWorldsBesideOneAnother(t *testing.T) {
	done := make(chan bool)
	shared := longWorld()
	for worker := range int64(8) {
		x, id := putOf(100+worker, 9, 900+worker, worker, -worker, 0), 1+worker%5
		ask, send, crash, hear := shouldAsk(longWorld(), x), shouldSend(longWorld(), id, 1), shouldCrash(longWorld(), id, 1), shouldHear(longWorld(), worker)
		go func() {
			right := true
			for range 60 {
				right = right && alikeStep(impl.AskWorld(shared, x), ask) && alikeStep(impl.SendWorld(shared, id, 1), send)
				right = right && alikeStep(impl.CrashWorld(shared, id, 1), crash) && alikeStep(impl.HearWorld(shared, worker), hear)
			}
			done <- right
		}()
	}
	for range 8 {
		if !<-done {
			t.Error("a call answered otherwise beside others")
		}
	}
}
