package tests

import (
	"math"
	"slices"
	"testing"

	"loop.example/g00357/impl"
)

func wantNetCode(t *testing.T, what string, got impl.NetResult, code int64) {
	t.Helper()
	if got.Code != code || len(got.Msgs) != 0 {
		t.Fatalf("%s: %+v, want the code %d alone", what, got, code)
	}
}

// wrongMsg is no message, and has the code that is named first of it.
type wrongMsg struct {
	m    impl.Msg
	code int64
}

func wrongKinds() []int64 {
	return append(outOf(1, 2), 0, 3, -2, 1<<32+1, 1<<32+2, -1<<32+1)
}

// outOfMsgNumbers are m with its Epoch, its From, its To or its Index out of bounds.
func outOfMsgNumbers(m impl.Msg) []impl.Msg {
	var list []impl.Msg
	for _, epoch := range wrongEpochs() {
		other := m
		other.Epoch = epoch
		list = append(list, other)
	}
	for _, id := range outOfNode() {
		other, another := m, m
		other.From = id
		another.To = id
		list = append(list, other, another)
	}
	indexes := append(outOf(0, 40), 42, 1<<32+1, -1<<32+1)
	if m.Kind == 1 {
		indexes = append(indexes, 0)
	}
	for _, index := range indexes {
		other := m
		other.Index = index
		list = append(list, other)
	}
	return list
}

// rightMsgs are one of each kind.
func rightMsgs() []impl.Msg {
	return []impl.Msg{forwardOf(9, 1, 2, 3, putOf(5, 6, 7, 1, 2, 3)), forwardOf(9, 4, 3, 40, dropOf(5, 6, 7)), ackOf(9, 2, 1, 0), ackOf(9, 5, 1, 40)}
}

// writesOfAcks are no zero Write: each has one thing alone, or is a whole write, with a fault or without.
func writesOfAcks() []impl.Write {
	return []impl.Write{
		{Kind: 1}, {Kind: 2}, {Kind: -1}, {Id: 1}, {Id: math.MinInt64}, {Session: 1}, {Seq: 1}, {Seq: 1 << 32},
		{Vec: []int64{0}}, {Vec: []int64{0, 0, 0}}, {Vec: []int64{1, 2, 3}}, {Vec: make([]int64, 500)},
		putOf(1, 1, 1, 0, 0, 0), putOf(5, 6, 7, 1001, 0, 0), dropOf(5, 6, 7), dropOf(0, 0, 0),
	}
}

// wrongInForm have a wrong Kind, go to where they come from, or are acks with a Write: each alone, and with all else that may be wrong.
func wrongInForm() []wrongMsg {
	list := []wrongMsg{{impl.Msg{}, impl.ErrForm}, {impl.Msg{Kind: 1}, impl.ErrForm}, {impl.Msg{Kind: 2}, impl.ErrForm}}
	for _, right := range rightMsgs() {
		for _, m := range append(outOfMsgNumbers(right), right) {
			for _, kind := range wrongKinds() {
				other := m
				other.Kind = kind
				list = append(list, wrongMsg{other, impl.ErrForm})
			}
			for _, id := range []int64{1, 2, 3, 4, 5, 0, 6, -1, math.MinInt64, math.MaxInt64} {
				other := m
				other.From, other.To = id, id
				list = append(list, wrongMsg{other, impl.ErrForm})
			}
			for _, w := range writesOfAcks() {
				if other := m; m.Kind == 2 {
					other.Write = w
					list = append(list, wrongMsg{other, impl.ErrForm})
				}
			}
		}
	}
	return list
}

// wrongInRange have a number out of bounds, which is asked ahead of the Write of a forward.
func wrongInRange() []wrongMsg {
	var list []wrongMsg
	for _, right := range rightMsgs() {
		for _, m := range outOfMsgNumbers(right) {
			list = append(list, wrongMsg{m, impl.ErrRange})
			for _, w := range []impl.Write{{}, {Kind: 3}, {Kind: 1}, putOf(5, 6, 7, 1001, 0, 0), {Kind: 1, Id: 1, Session: 1, Seq: 1}} {
				if other := m; m.Kind == 1 {
					other.Write = w
					list = append(list, wrongMsg{other, impl.ErrRange})
				}
			}
		}
	}
	return list
}

// wrongInWrite are forwards that are right but for their Write.
func wrongInWrite() []wrongMsg {
	var list []wrongMsg
	for i, x := range wrongWrites() {
		for _, m := range []impl.Msg{forwardOf(1, 1, 2, 1, x.w), forwardOf(999, 5, 4, 40, x.w)} {
			if i%3 == 0 || m.Epoch == 1 {
				list = append(list, wrongMsg{m, x.code})
			}
		}
	}
	return list
}

func wrongMsgs() []wrongMsg {
	return slices.Concat(wrongInForm(), wrongInRange(), wrongInWrite())
}

// fewWrongMsgs are of each code, from all that may be wrong.
func fewWrongMsgs() []wrongMsg {
	var list []wrongMsg
	for i, x := range wrongMsgs() {
		if i%37 == 0 {
			list = append(list, x)
		}
	}
	return list
}

// P1: a wrong message has the code that is named first, and all else is zero.
func TestWrongMsgs(t *testing.T) {
	codes := map[int64]int{}
	for _, x := range wrongMsgs() {
		codes[x.code]++
		if code := impl.MsgFault(x.m); code != x.code {
			t.Fatalf("MsgFault(%+v) = %d, want %d", x.m, code, x.code)
		}
		if got := impl.MsgText(x.m); got != (impl.TextResult{Code: x.code}) {
			t.Fatalf("MsgText(%+v) = %+v, want the code %d alone", x.m, got, x.code)
		}
		wantNetCode(t, "SendMsg of a wrong one", impl.SendMsg(nil, x.m), x.code)
		wantNetCode(t, "SendMsg of a wrong one to others", impl.SendMsg(rightMsgs(), x.m), x.code)
		if code := impl.NetFault([]impl.Msg{x.m}); code != x.code {
			t.Fatalf("NetFault of %+v = %d, want %d", x.m, code, x.code)
		}
	}
	if codes[impl.ErrForm] == 0 || codes[impl.ErrRange] == 0 || len(codes) != 2 {
		t.Errorf("the codes that were asked: %v", codes)
	}
}

// A forward with Index 0 is wrong, an ack with it is not.
func TestIndexNone(t *testing.T) {
	forward, ack := forwardOf(1, 1, 2, 0, dropOf(1, 1, 1)), ackOf(1, 1, 2, 0)
	if impl.MsgFault(forward) != impl.ErrRange || impl.MsgFault(ack) != impl.OK {
		t.Error(impl.MsgFault(forward), impl.MsgFault(ack))
	}
}

// wrongNet is no list of messages, with its code: their number is asked first, then one by one each of them.
type wrongNet struct {
	list []impl.Msg
	code int64
}

func withMsg(list []impl.Msg, place int, m impl.Msg) []impl.Msg {
	other := slices.Clone(list)
	other[place] = m
	return other
}

func tooManyMsgs() []wrongNet {
	form := impl.Msg{Kind: 3}
	list := []wrongNet{
		{fullMsgs(41), impl.ErrMany},
		{fullMsgs(42), impl.ErrMany},
		{fullMsgs(200), impl.ErrMany},
		{make([]impl.Msg, 41), impl.ErrMany},
		{make([]impl.Msg, 5000), impl.ErrMany},
		{append(fullMsgs(40), form), impl.ErrMany},
		{append([]impl.Msg{form}, fullMsgs(40)...), impl.ErrMany},
		{slices.Repeat([]impl.Msg{ackOf(1, 1, 2, 0)}, 41), impl.ErrMany},
		{make([]impl.Msg, 40), impl.ErrForm},
		{make([]impl.Msg, 1), impl.ErrForm},
	}
	return list
}

// wrongAtOnePlace have a wrong one among others, the first one and the last one too.
func wrongAtOnePlace() []wrongNet {
	var list []wrongNet
	for i, x := range fewWrongMsgs() {
		list = append(list, wrongNet{withMsg(fullMsgs(40), i%40, x.m), x.code}, wrongNet{withMsg(fullMsgs(3), i%3, x.m), x.code})
	}
	for place := range 40 {
		list = append(list, wrongNet{withMsg(fullMsgs(40), place, ackOf(1, 1, 1, 0)), impl.ErrForm})
		list = append(list, wrongNet{withMsg(fullMsgs(40), place, ackOf(1, 1, 6, 0)), impl.ErrRange})
	}
	return list
}

// wrongAtTwoPlaces have two wrong ones: the first of them is told, whatever its code.
func wrongAtTwoPlaces() []wrongNet {
	var list []wrongNet
	wrong := []wrongMsg{
		{ackOf(1, 3, 3, 0), impl.ErrForm},
		{ackOf(1000, 1, 2, 0), impl.ErrRange},
		{forwardOf(1, 1, 2, 1, putOf(1, 1, 1, 0, 0, 1001)), impl.ErrRange},
		{forwardOf(1, 1, 2, 1, impl.Write{Kind: 1, Id: 1, Session: 1, Seq: 1}), impl.ErrForm},
	}
	for _, first := range wrong {
		for _, second := range wrong {
			for _, at := range [][2]int{{0, 1}, {0, 39}, {17, 18}, {38, 39}} {
				msgs := withMsg(withMsg(fullMsgs(40), at[0], first.m), at[1], second.m)
				list = append(list, wrongNet{msgs, first.code})
			}
		}
	}
	return list
}

func wrongNets() []wrongNet {
	return slices.Concat(tooManyMsgs(), wrongAtOnePlace(), wrongAtTwoPlaces())
}

// P1: what is wrong with those under way is told ahead of what is wrong with the message, the place, or the room.
func TestWrongNets(t *testing.T) {
	msgs := []impl.Msg{{}, ackOf(1, 1, 1, 0), ackOf(1000, 1, 2, 0), ackOf(1, 1, 2, 0), forwardOf(1, 1, 2, 1, dropOf(1, 1, 1000))}
	for _, x := range wrongNets() {
		if code := impl.NetFault(x.list); code != x.code {
			t.Fatalf("NetFault(%+v) = %d, want %d", x.list, code, x.code)
		}
		for _, m := range append(msgs, x.list[0], x.list[len(x.list)-1]) {
			wantNetCode(t, "SendMsg to wrong ones", impl.SendMsg(x.list, m), x.code)
		}
		for _, number := range []int64{0, 1, 2, 39, 40, 41, -1, math.MinInt64, math.MaxInt64} {
			wantNetCode(t, "DropMsg of wrong ones", impl.DropMsg(x.list, number), x.code)
			wantIntCode(t, "CountMsgs of wrong ones", impl.CountMsgs(x.list, number), x.code)
		}
	}
}

// Where there are 40 a wrong message is told ahead of that there is no room.
func TestWrongMsgsToFullNets(t *testing.T) {
	full := fullMsgs(40)
	for _, x := range fewWrongMsgs() {
		wantNetCode(t, "SendMsg of a wrong one where there are 40", impl.SendMsg(full, x.m), x.code)
		wantNetCode(t, "SendMsg of a wrong one where there are 39", impl.SendMsg(full[:39], x.m), x.code)
	}
	for _, m := range edgeMsgs() {
		if timesIn(full, m) == 0 {
			wantNetCode(t, "SendMsg where there are 40", impl.SendMsg(full, m), impl.ErrMany)
		}
	}
}

func TestWrongPlaces(t *testing.T) {
	for _, list := range manyNets() {
		count := int64(len(list))
		for _, at := range []int64{count, count + 1, -1, -count - 1, 41, 1 << 32, 1<<32 + count - 1, -1 << 32, math.MinInt64, math.MaxInt64} {
			wantNetCode(t, "DropMsg, at wrong", impl.DropMsg(list, at), impl.ErrRange)
		}
	}
}

func cloneMsgs(list []impl.Msg) []impl.Msg {
	var msgs []impl.Msg
	for _, m := range list {
		m.Write.Vec = slices.Clone(m.Write.Vec)
		msgs = append(msgs, m)
	}
	return msgs
}

// spareMsgs are messages with room behind them and behind each Vec, and all of that room, so that a write behind an end is seen too.
func spareMsgs(list []impl.Msg) (msgs []impl.Msg, room []impl.Msg, vecs [][]int64) {
	for _, m := range list {
		vec, all := spareOf(m.Write.Vec)
		m.Write.Vec = vec
		room = append(room, m)
		vecs = append(vecs, all)
	}
	for range 5 {
		room = append(room, ackOf(77, 3, 4, 7))
	}
	return room[:len(list)], room, vecs
}

// scribbleMsgs writes over messages, over their vectors, and over all the room behind them.
func scribbleMsgs(list []impl.Msg) {
	all := list[:cap(list)]
	for i := range all {
		vec := all[i].Write.Vec
		scribbleInts(vec[:cap(vec)])
		all[i] = impl.Msg{Kind: 88}
	}
}

// askNet calls all functions with messages, and writes over all that they answer.
func askNet(list []impl.Msg, m impl.Msg, number int64) {
	impl.NetFault(list)
	impl.MsgFault(m)
	impl.MsgText(m)
	impl.CountMsgs(list, number)
	scribbleMsgs(impl.SendMsg(list, m).Msgs)
	scribbleMsgs(impl.DropMsg(list, number).Msgs)
}

// stayingNets are of all kinds, with a fault and without.
func stayingNets() [][]impl.Msg {
	list := manyNets()
	for i, x := range wrongNets() {
		if i%5 == 0 && len(x.list) <= 200 {
			list = append(list, x.list)
		}
	}
	return list
}

// P1: no argument is changed, not even what lies behind it, nor by a change of the answer.
func TestNetsStay(t *testing.T) {
	for _, was := range stayingNets() {
		msgs, room, vecs := spareMsgs(was)
		wasRoom, wasVecs := cloneMsgs(room), [][]int64{}
		for _, all := range vecs {
			wasVecs = append(wasVecs, slices.Clone(all))
		}
		vec, vecRoom := spareOf([]int64{4, 5, 6})
		wasVec := slices.Clone(vecRoom)
		for _, number := range []int64{-1, 0, 1, 2, 38, 39, 40} {
			for _, index := range []int64{0, 1, 40} {
				askNet(msgs, forwardOf(888, 1, 2, index, impl.Write{Kind: 1, Id: 3, Vec: vec, Session: 1, Seq: 1}), number)
			}
			for _, m := range msgs[:min(len(msgs), 2)] {
				askNet(msgs, m, number)
			}
		}
		if !alikeMsgs(room, wasRoom) || !slices.EqualFunc(vecs, wasVecs, slices.Equal[[]int64]) || !slices.Equal(vecRoom, wasVec) {
			t.Fatalf("%+v were changed to %+v, or the Vec to %v", was, room, vecRoom)
		}
	}
}

// netsFrom are all answers with messages: of arguments that are made anew, and what is called once the answers are there, to change all that was given.
func netsFrom() (answers map[string][]impl.Msg, spoil func()) {
	list, m := fullMsgs(20), forwardOf(500, 5, 1, 40, putOf(50, 2, 500, 7, 8, 9))
	full := fullMsgs(40)
	again := cloneMsgs(list)[3]
	borrowed := forwardOf(500, 5, 1, 40, impl.Write{Kind: 1, Id: 1, Vec: list[0].Write.Vec, Session: 1, Seq: 999})
	answers = map[string][]impl.Msg{
		"SendMsg":                           impl.SendMsg(list, m).Msgs,
		"SendMsg of an ack":                 impl.SendMsg(list, ackOf(500, 5, 1, 0)).Msgs,
		"SendMsg of one that is there":      impl.SendMsg(list, again).Msgs,
		"SendMsg of one of its own":         impl.SendMsg(list, list[19]).Msgs,
		"SendMsg to none":                   impl.SendMsg(nil, m).Msgs,
		"SendMsg to 39":                     impl.SendMsg(full[:39], m).Msgs,
		"SendMsg to 40, of one of them":     impl.SendMsg(full, full[39]).Msgs,
		"SendMsg, the Vec of another":       impl.SendMsg(list, borrowed).Msgs,
		"SendMsg, with room behind":         impl.SendMsg(list[:6], m).Msgs,
		"SendMsg, as it stood behind":       impl.SendMsg(list[:6], list[6]).Msgs,
		"DropMsg of the first":              impl.DropMsg(list, 0).Msgs,
		"DropMsg in between":                impl.DropMsg(list, 10).Msgs,
		"DropMsg of the last":               impl.DropMsg(list, 19).Msgs,
		"DropMsg of 40, the first":          impl.DropMsg(full, 0).Msgs,
		"DropMsg of 40, the last":           impl.DropMsg(full, 39).Msgs,
		"DropMsg of two":                    impl.DropMsg(list[:2], 1).Msgs,
		"DropMsg, with room behind the end": impl.DropMsg(list[:6], 2).Msgs,
	}
	return answers, func() {
		scribbleMsgs(list)
		scribbleMsgs(full)
		scribbleInts(m.Write.Vec)
		scribbleInts(again.Write.Vec)
	}
}

// P1: an answer stays as it is, whatever becomes of the arguments that it came from.
func TestNetsAreNotShared(t *testing.T) {
	want, _ := netsFrom()
	got, spoil := netsFrom()
	spoil()
	for what, msgs := range got {
		if len(msgs) == 0 || !alikeMsgs(msgs, want[what]) {
			t.Errorf("%s: %+v became %+v by a change of what was given", what, want[what], msgs)
		}
	}
}

// P1: no two lists of one answer share any memory, not even behind their ends.
func TestListsOfOneNetAreApart(t *testing.T) {
	want, _ := netsFrom()
	for at := range 40 {
		answers, _ := netsFrom()
		for what, msgs := range answers {
			if at >= len(msgs) {
				continue
			}
			vec := msgs[at].Write.Vec
			scribbleInts(vec[:cap(vec)])
			msgs[at].Write.Vec = want[what][at].Write.Vec
			if !alikeMsgs(msgs, want[what]) {
				t.Fatalf("%s: %+v became %+v by a change at %d", what, want[what], msgs, at)
			}
		}
	}
}

// P1: the lists of an answer are apart also where those that were given were one.
func TestNetsOfOneVector(t *testing.T) {
	one := []int64{1, 2, 3}
	var list []impl.Msg
	for seq := int64(1); seq <= 10; seq++ {
		list = append(list, forwardOf(1, 1, 2, seq, impl.Write{Kind: 1, Id: seq, Vec: one, Session: 1, Seq: seq}))
	}
	more := forwardOf(1, 1, 2, 11, impl.Write{Kind: 1, Id: 11, Vec: one, Session: 1, Seq: 11})
	for what, got := range map[string][]impl.Msg{"SendMsg": impl.SendMsg(list, more).Msgs, "SendMsg again": impl.SendMsg(list, list[4]).Msgs, "DropMsg": impl.DropMsg(list, 3).Msgs} {
		if len(got) < 9 {
			t.Fatalf("%s: %+v", what, got)
		}
		for i := range got {
			scribbleInts(got[i].Write.Vec)
			for _, later := range got[i+1:] {
				if !slices.Equal(later.Write.Vec, []int64{1, 2, 3}) {
					t.Fatalf("%s: %+v was changed with another one", what, later)
				}
			}
		}
		if !slices.Equal(one, []int64{1, 2, 3}) {
			t.Fatalf("%s: what was given became %v", what, one)
		}
	}
}

// P1: each answer is new memory, and the same whatever was called or changed ahead of it, also behind calls that told a code.
func TestNetsAreNew(t *testing.T) {
	want, _ := netsFrom()
	first, _ := netsFrom()
	kept, _ := netsFrom()
	for _, msgs := range first {
		scribbleMsgs(msgs)
	}
	impl.SendMsg(fullMsgs(40), ackOf(500, 5, 1, 0))
	impl.SendMsg(fullMsgs(4), impl.Msg{})
	impl.DropMsg(fullMsgs(4), 4)
	impl.MsgText(impl.Msg{})
	again, _ := netsFrom()
	for what, msgs := range want {
		if !alikeMsgs(kept[what], msgs) || !alikeMsgs(again[what], msgs) {
			t.Errorf("%s: %+v became %+v and %+v by a change of another answer", what, msgs, kept[what], again[what])
		}
	}
}

// P1: two answers from one list stay apart, also where each has one message more.
func TestNetsThatPart(t *testing.T) {
	for _, list := range [][]impl.Msg{impl.SendMsg(fullMsgs(4), ackOf(500, 5, 1, 0)).Msgs, impl.DropMsg(fullMsgs(9), 8).Msgs, impl.SendMsg(nil, ackOf(500, 5, 1, 0)).Msgs} {
		was := cloneMsgs(list)
		a, b := ackOf(600, 1, 2, 1), forwardOf(600, 1, 2, 1, putOf(1, 1, 1, 4, 5, 6))
		left, right, gone := impl.SendMsg(list, a), impl.SendMsg(list, b), impl.DropMsg(list, 0)
		wantNet(t, "SendMsg", left, append(slices.Clone(was), a))
		wantNet(t, "SendMsg", right, append(slices.Clone(was), b))
		wantNet(t, "DropMsg", gone, was[1:])
		if !alikeMsgs(list, was) {
			t.Errorf("%+v became %+v", was, list)
		}
	}
}

// P1: calls at the same time keep nothing that another one could see, also where some of them tell a code (a run with -race tells of it as well).
func TestNetsBesideOneAnother(t *testing.T) {
	done := make(chan bool)
	shared := fullMsgs(30)
	for worker := range int64(8) {
		m := forwardOf(500+worker, 5, 1, 40, putOf(100+worker, 1, 1, worker, 0, 0))
		with, without := append(fullMsgs(30), m), withoutPlace(fullMsgs(30), worker)
		go func() {
			right := true
			for range 100 {
				got := impl.SendMsg(shared, m)
				right = right && alikeMsgs(got.Msgs, with) && alikeMsgs(impl.SendMsg(got.Msgs, m).Msgs, with)
				right = right && alikeMsgs(impl.DropMsg(shared, worker).Msgs, without) && impl.DropMsg(shared, 30+worker).Code == impl.ErrRange
				right = right && impl.MsgFault(ackOf(1, 1, 1+worker%2*5, 0)) == []int64{impl.ErrForm, impl.ErrRange}[worker%2]
				right = right && impl.MsgText(m).Text == textOfMsg(m) && impl.CountMsgs(got.Msgs, 1).Value == countOf(with, 1)
			}
			done <- right
		}()
	}
	for range 8 {
		if !<-done {
			t.Error("a call answered otherwise beside others")
		}
	}
}
