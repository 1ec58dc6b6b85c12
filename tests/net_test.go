package tests

import (
	"fmt"
	"math"
	"math/rand"
	"slices"
	"testing"

	"loop.example/g00357/impl"
)

func forwardOf(epoch, from, to, index int64, w impl.Write) impl.Msg {
	return impl.Msg{Kind: 1, Epoch: epoch, From: from, To: to, Index: index, Write: w}
}

func ackOf(epoch, from, to, index int64) impl.Msg {
	return impl.Msg{Kind: 2, Epoch: epoch, From: from, To: to, Index: index}
}

// alikeMsg asks each field by itself; no Vec and one without parts are the same.
func alikeMsg(a, b impl.Msg) bool {
	return a.Kind == b.Kind && a.Epoch == b.Epoch && a.From == b.From && a.To == b.To && a.Index == b.Index && alike(a.Write, b.Write)
}

func alikeMsgs(a, b []impl.Msg) bool {
	return slices.EqualFunc(a, b, alikeMsg)
}

func wantNet(t *testing.T, what string, got impl.NetResult, want []impl.Msg) {
	t.Helper()
	if got.Code != impl.OK || !alikeMsgs(got.Msgs, want) {
		t.Fatalf("%s: %+v, want %+v", what, got, want)
	}
	if code := impl.NetFault(got.Msgs); code != impl.OK {
		t.Fatalf("%s: %+v has the fault %d", what, got.Msgs, code)
	}
}

// textOfMsg is written out as the document tells it, not as the program does.
func textOfMsg(m impl.Msg) string {
	if m.Kind == 1 {
		return fmt.Sprintf("forward %d %d %d %d %s", m.Epoch, m.From, m.To, m.Index, textOfWrite(m.Write))
	}
	return fmt.Sprintf("ack %d %d %d %d", m.Epoch, m.From, m.To, m.Index)
}

func timesIn(list []impl.Msg, m impl.Msg) int {
	times := 0
	for _, one := range list {
		if alikeMsg(one, m) {
			times++
		}
	}
	return times
}

// countOf goes through the list by itself.
func countOf(list []impl.Msg, to int64) int64 {
	count := int64(0)
	for _, m := range list {
		if m.To == to {
			count++
		}
	}
	return count
}

// sentTo is what there should be: m behind the others, where all of it is not there.
func sentTo(list []impl.Msg, m impl.Msg) []impl.Msg {
	if timesIn(list, m) > 0 {
		return list
	}
	return append(slices.Clone(list), m)
}

// withoutPlace is what there should be behind a loss; the others stay in their order.
func withoutPlace(list []impl.Msg, at int64) []impl.Msg {
	var left []impl.Msg
	for place, m := range list {
		if int64(place) != at {
			left = append(left, m)
		}
	}
	return left
}

// someMsg is a forward or an ack of few epochs, nodes and writes, so that it often comes again.
func someMsg(from *rand.Rand) impl.Msg {
	one := 1 + from.Int63n(5)
	other := 1 + (one+from.Int63n(4))%5
	if from.Intn(2) == 0 {
		return ackOf(1+from.Int63n(2), one, other, from.Int63n(3))
	}
	index := 1 + from.Int63n(3)
	return forwardOf(1+from.Int63n(2), one, other, index, putOf(index, 1, index, one, 0, 0))
}

// fullMsgs are n messages, each another one, to all nodes by turns.
func fullMsgs(n int64) []impl.Msg {
	var list []impl.Msg
	for i, w := range fullWrites(n) {
		at := int64(i)
		if at%3 == 2 {
			list = append(list, ackOf(1+at, 1+at%5, 1+(at+1)%5, at%41))
		} else {
			list = append(list, forwardOf(1+at, 1+at%5, 1+(at+1)%5, 1+at%40, w))
		}
	}
	return list
}

// edgeMsgs are messages at all bounds: each pair of nodes, the first and the last Epoch and Index, puts and drops.
func edgeMsgs() []impl.Msg {
	var list []impl.Msg
	for _, epoch := range []int64{1, 2, 998, 999} {
		for from := int64(1); from <= 5; from++ {
			for to := int64(1); to <= 5; to++ {
				if from == to {
					continue
				}
				list = append(list, ackOf(epoch, from, to, 0), ackOf(epoch, from, to, 1), ackOf(epoch, from, to, 39), ackOf(epoch, from, to, 40))
				for _, w := range []impl.Write{putOf(1, 1, 1, 0, 0, 0), putOf(999, 9, 999, -1000, 1000, -1), dropOf(1, 1, 1), dropOf(999, 9, 999)} {
					list = append(list, forwardOf(epoch, from, to, 1, w), forwardOf(epoch, from, to, 39, w), forwardOf(epoch, from, to, 40, w))
				}
			}
		}
	}
	return list
}

// manyNets are messages under way: none, up to 40, in any order, and some of them there twice.
func manyNets() [][]impl.Msg {
	from := rand.New(rand.NewSource(41))
	list := [][]impl.Msg{nil, {}, fullMsgs(1), fullMsgs(2), fullMsgs(7), fullMsgs(39), fullMsgs(40), edgeMsgs()[:40]}
	for _, n := range []int{1, 2, 3, 5, 8, 20, 39, 40} {
		for range 4 {
			var msgs []impl.Msg
			for range n {
				msgs = append(msgs, someMsg(from))
			}
			list = append(list, msgs)
		}
	}
	return list
}

func TestNetBounds(t *testing.T) {
	if impl.MsgForward != 1 || impl.MsgAck != 2 || impl.MaxMsgs != 40 {
		t.Error(impl.MsgForward, impl.MsgAck, impl.MaxMsgs)
	}
}

func TestNetOfExamples(t *testing.T) {
	put, drop := forwardOf(1, 1, 2, 1, putOf(2, 3, 4, 1, -1, 0)), forwardOf(1, 1, 2, 2, dropOf(7, 1, 2))
	ack := ackOf(1, 2, 1, 0)
	one := impl.SendMsg(nil, put)
	wantNet(t, "SendMsg", one, []impl.Msg{put})
	two := impl.SendMsg(one.Msgs, ack)
	wantNet(t, "SendMsg of an ack", two, []impl.Msg{put, ack})
	three := impl.SendMsg(two.Msgs, drop)
	wantNet(t, "SendMsg of a drop", three, []impl.Msg{put, ack, drop})
	wantNet(t, "SendMsg of the first again", impl.SendMsg(three.Msgs, put), []impl.Msg{put, ack, drop})
	wantInt(t, "CountMsgs of 2", impl.CountMsgs(three.Msgs, 2), 2)
	wantInt(t, "CountMsgs of 1", impl.CountMsgs(three.Msgs, 1), 1)
	wantInt(t, "CountMsgs of 3", impl.CountMsgs(three.Msgs, 3), 0)
	wantNet(t, "DropMsg of the first", impl.DropMsg(three.Msgs, 0), []impl.Msg{ack, drop})
	wantNet(t, "DropMsg in between", impl.DropMsg(three.Msgs, 1), []impl.Msg{put, drop})
	wantNet(t, "DropMsg of the last", impl.DropMsg(three.Msgs, 2), []impl.Msg{put, ack})
	wantNet(t, "DropMsg of the only one", impl.DropMsg(one.Msgs, 0), nil)
	wantTextOf(t, "MsgText of a put", impl.MsgText(put), "forward 1 1 2 1 put 2 1,-1,0 by 3 4")
	wantTextOf(t, "MsgText of a drop", impl.MsgText(drop), "forward 1 1 2 2 drop 7 by 1 2")
	wantTextOf(t, "MsgText of an ack", impl.MsgText(ack), "ack 1 2 1 0")
}

func TestMsgTexts(t *testing.T) {
	wantTextOf(t, "MsgText", impl.MsgText(ackOf(999, 5, 4, 40)), "ack 999 5 4 40")
	wantTextOf(t, "MsgText", impl.MsgText(forwardOf(999, 4, 5, 40, putOf(999, 9, 999, -1000, 1000, 0))), "forward 999 4 5 40 put 999 -1000,1000,0 by 9 999")
	wantTextOf(t, "MsgText", impl.MsgText(forwardOf(10, 3, 1, 10, dropOf(10, 1, 10))), "forward 10 3 1 10 drop 10 by 1 10")
	for _, m := range edgeMsgs() {
		wantTextOf(t, "MsgText", impl.MsgText(m), textOfMsg(m))
	}
	for _, w := range manyWrites() {
		m := forwardOf(12, 2, 3, 4, w)
		wantTextOf(t, "MsgText", impl.MsgText(m), textOfMsg(m))
	}
}

// All messages at the bounds are without a fault, and so is each Epoch and each Index.
func TestMsgsWithoutFault(t *testing.T) {
	list := edgeMsgs()
	for epoch := int64(1); epoch <= 999; epoch++ {
		list = append(list, ackOf(epoch, 1, 2, 3), forwardOf(epoch, 2, 1, 3, dropOf(1, 1, 1)))
	}
	for index := range int64(41) {
		list = append(list, ackOf(1, 1, 2, index))
		if index > 0 {
			list = append(list, forwardOf(1, 1, 2, index, dropOf(1, 1, 1)))
		}
	}
	for _, m := range list {
		if code := impl.MsgFault(m); code != impl.OK {
			t.Fatalf("MsgFault(%+v) = %d", m, code)
		}
		wantNet(t, "SendMsg to none", impl.SendMsg(nil, m), []impl.Msg{m})
	}
}

// Messages may be under way in any order, and one that comes in twice is no fault of them.
func TestNetsWithoutFault(t *testing.T) {
	for _, list := range append(manyNets(), slices.Repeat([]impl.Msg{ackOf(1, 1, 2, 0)}, 40)) {
		if code := impl.NetFault(list); code != impl.OK {
			t.Fatalf("NetFault(%+v) = %d", list, code)
		}
	}
}

// No messages: nil and an empty list are the same, nothing can be lost, and one may be sent.
func TestNoMsgs(t *testing.T) {
	for _, none := range [][]impl.Msg{nil, {}} {
		if code := impl.NetFault(none); code != impl.OK {
			t.Errorf("NetFault of none = %d", code)
		}
		wantNet(t, "SendMsg", impl.SendMsg(none, ackOf(1, 1, 2, 0)), []impl.Msg{ackOf(1, 1, 2, 0)})
		wantNetCode(t, "DropMsg of none", impl.DropMsg(none, 0), impl.ErrRange)
		for to := int64(0); to <= 6; to++ {
			wantInt(t, "CountMsgs of none", impl.CountMsgs(none, to), 0)
		}
	}
}

// An ack and a drop have no Vec, be it nil or empty: the two are the same message.
func TestEmptyVecsOfMsgs(t *testing.T) {
	for _, m := range []impl.Msg{ackOf(3, 1, 2, 4), forwardOf(3, 1, 2, 4, dropOf(5, 6, 7))} {
		empty := m
		empty.Write.Vec = []int64{}
		if code := impl.MsgFault(empty); code != impl.OK {
			t.Errorf("MsgFault(%+v) = %d", empty, code)
		}
		wantTextOf(t, "MsgText", impl.MsgText(empty), textOfMsg(m))
		wantNet(t, "SendMsg of one that is there", impl.SendMsg([]impl.Msg{m}, empty), []impl.Msg{m})
		wantNet(t, "SendMsg of one that is there", impl.SendMsg([]impl.Msg{empty}, m), []impl.Msg{m})
	}
}

// P12: what is sent is the last one, the others stay, and it is there once.
func TestWhatIsSentIsUnderWay(t *testing.T) {
	for _, list := range manyNets() {
		if len(list) == 40 {
			continue
		}
		for _, m := range []impl.Msg{ackOf(500, 5, 1, 0), forwardOf(500, 5, 1, 40, putOf(7, 7, 7, 1, 2, 3)), forwardOf(500, 5, 1, 40, dropOf(7, 7, 7))} {
			got := impl.SendMsg(list, m)
			wantNet(t, "SendMsg", got, append(slices.Clone(list), m))
			if timesIn(got.Msgs, m) != 1 {
				t.Fatalf("%+v is not once in %+v", m, got.Msgs)
			}
		}
	}
}

// P12: a message that is there is not sent again, be it the first or the last, and be there 40.
func TestWhatIsThereIsNotSentAgain(t *testing.T) {
	for _, list := range manyNets() {
		for _, m := range list {
			wantNet(t, "SendMsg of one that is there", impl.SendMsg(list, m), list)
		}
	}
	for _, m := range edgeMsgs() {
		once := impl.SendMsg(fullMsgs(5), m).Msgs
		wantNet(t, "SendMsg, twice", impl.SendMsg(once, m), sentTo(fullMsgs(5), m))
	}
}

// otherMsgs are right, and differ from m in one field alone.
func otherMsgs(m impl.Msg) []impl.Msg {
	var list []impl.Msg
	for _, change := range []func(*impl.Msg){
		func(o *impl.Msg) { o.Epoch++ },
		func(o *impl.Msg) { o.From = 6 - o.From - o.To },
		func(o *impl.Msg) { o.To = 6 - o.From - o.To },
		func(o *impl.Msg) { o.Index++ },
	} {
		other := m
		change(&other)
		list = append(list, other)
	}
	if m.Kind == 1 {
		for _, w := range otherWrites(m.Write) {
			if other := m; impl.WriteFault(w) == impl.OK {
				other.Write = w
				list = append(list, other)
			}
		}
	}
	return list
}

// P12: a message that is there but for one field is another one, and is sent.
func TestMsgsThatAreNearlyThere(t *testing.T) {
	for _, m := range []impl.Msg{ackOf(5, 1, 2, 3), forwardOf(5, 1, 2, 3, putOf(8, 4, 500, 1, 2, 3)), forwardOf(5, 3, 2, 3, dropOf(8, 4, 500))} {
		others := otherMsgs(m)
		if len(others) < 4 || m.Kind == 1 && len(others) < 10 {
			t.Fatalf("only %d others of %+v", len(others), m)
		}
		for _, other := range others {
			wantNet(t, "SendMsg of another one", impl.SendMsg([]impl.Msg{m}, other), []impl.Msg{m, other})
			wantNet(t, "SendMsg of another one", impl.SendMsg([]impl.Msg{other}, m), []impl.Msg{other, m})
			wantNet(t, "SendMsg of one of two", impl.SendMsg([]impl.Msg{other, m}, m), []impl.Msg{other, m})
			full := append([]impl.Msg{m}, fullMsgs(39)...)
			if timesIn(full, other) == 0 {
				wantNetCode(t, "SendMsg of another one where there are 40", impl.SendMsg(full, other), impl.ErrMany)
			}
		}
	}
	put, drop := forwardOf(5, 1, 2, 3, putOf(8, 4, 500, 0, 0, 0)), forwardOf(5, 1, 2, 3, dropOf(8, 4, 500))
	wantNet(t, "SendMsg of a drop where the put is", impl.SendMsg([]impl.Msg{put}, drop), []impl.Msg{put, drop})
	wantNet(t, "SendMsg of an ack where the forward is", impl.SendMsg([]impl.Msg{put}, ackOf(5, 1, 2, 3)), []impl.Msg{put, ackOf(5, 1, 2, 3)})
}

// P12: what is lost is gone from its place, and the others are under way as they were.
func TestLosses(t *testing.T) {
	for _, list := range manyNets() {
		for at := range int64(len(list)) {
			got := impl.DropMsg(list, at)
			wantNet(t, "DropMsg", got, withoutPlace(list, at))
			if timesIn(got.Msgs, list[at]) != timesIn(list, list[at])-1 {
				t.Fatalf("%+v was not lost once: %+v", list[at], got.Msgs)
			}
		}
	}
}

// P12: what was sent and lost is not under way any more, and may be sent again: it is the last one then.
func TestSentLostAndSentAgain(t *testing.T) {
	for _, m := range edgeMsgs() {
		list := fullMsgs(9)
		if timesIn(list, m) > 0 {
			continue
		}
		with := impl.SendMsg(list, m).Msgs
		wantNet(t, "DropMsg of what was sent", impl.DropMsg(with, 9), list)
		behind := impl.SendMsg(with, ackOf(777, 1, 2, 3)).Msgs
		gone := impl.DropMsg(behind, 9)
		wantNet(t, "DropMsg in between", gone, append(fullMsgs(9), ackOf(777, 1, 2, 3)))
		wantNet(t, "SendMsg of what was lost", impl.SendMsg(gone.Msgs, m), append(fullMsgs(9), ackOf(777, 1, 2, 3), m))
	}
}

// Of 40 messages the first and the last may be lost; then there is room for just one.
func TestNetsThatFill(t *testing.T) {
	full := fullMsgs(40)
	var list []impl.Msg
	for i, m := range full {
		got := impl.SendMsg(list, m)
		wantNet(t, "SendMsg", got, full[:i+1])
		list = got.Msgs
	}
	more := ackOf(999, 5, 1, 40)
	wantNetCode(t, "SendMsg where there are 40", impl.SendMsg(list, more), impl.ErrMany)
	for _, m := range full {
		wantNet(t, "SendMsg of one that is there where there are 40", impl.SendMsg(list, m), full)
	}
	for _, at := range []int64{0, 20, 39} {
		left := impl.DropMsg(list, at)
		wantNet(t, "DropMsg of 40", left, withoutPlace(full, at))
		again := impl.SendMsg(left.Msgs, more)
		wantNet(t, "SendMsg where there are 39", again, append(withoutPlace(full, at), more))
		wantNetCode(t, "SendMsg where there are 40 again", impl.SendMsg(again.Msgs, full[at]), impl.ErrMany)
	}
}

// All nodes, and numbers that are none's: nothing is under way to these.
func TestCounts(t *testing.T) {
	for _, list := range manyNets() {
		sum := int64(0)
		for to := int64(1); to <= 5; to++ {
			got := impl.CountMsgs(list, to)
			wantInt(t, "CountMsgs", got, countOf(list, to))
			sum += got.Value
		}
		if sum != int64(len(list)) {
			t.Fatalf("%d of %d messages are under way to somebody", sum, len(list))
		}
		for _, to := range append(outOfNode(), math.MinInt64+1) {
			wantInt(t, "CountMsgs to none", impl.CountMsgs(list, to), 0)
		}
	}
	wantInt(t, "CountMsgs of one that comes twice", impl.CountMsgs([]impl.Msg{ackOf(1, 1, 2, 0), ackOf(1, 1, 2, 0)}, 2), 2)
	wantInt(t, "CountMsgs of From", impl.CountMsgs([]impl.Msg{ackOf(1, 1, 2, 0)}, 1), 0)
}

// P12: of many sends and losses, each held against what it should be; no message is there twice.
func TestNetsOfManySteps(t *testing.T) {
	from := rand.New(rand.NewSource(42))
	filled := 0
	for range 60 {
		var list []impl.Msg
		for range 150 {
			m := someMsg(from)
			if want := sentTo(list, m); len(want) > 40 {
				filled++
				wantNetCode(t, "SendMsg where there are 40", impl.SendMsg(list, m), impl.ErrMany)
			} else {
				got := impl.SendMsg(list, m)
				wantNet(t, "SendMsg", got, want)
				list = got.Msgs
			}
			if timesIn(list, m) > 1 {
				t.Fatalf("%+v is there twice: %+v", m, list)
			}
			if from.Intn(4) == 0 {
				at := from.Int63n(int64(len(list)))
				got := impl.DropMsg(list, at)
				wantNet(t, "DropMsg", got, withoutPlace(list, at))
				if timesIn(got.Msgs, list[at]) != 0 {
					t.Fatalf("%+v is still there: %+v", list[at], got.Msgs)
				}
				list = got.Msgs
			}
		}
	}
	if filled == 0 {
		t.Error("no list was ever full")
	}
}

// P1: what is asked again is answered again.
func TestNetsAnswerAgain(t *testing.T) {
	list, m := fullMsgs(12), forwardOf(500, 5, 1, 40, putOf(7, 7, 7, 1, 2, 3))
	for range 3 {
		wantNet(t, "SendMsg", impl.SendMsg(list, m), append(fullMsgs(12), m))
		wantNet(t, "SendMsg of one that is there", impl.SendMsg(list, list[4]), fullMsgs(12))
		wantNet(t, "DropMsg", impl.DropMsg(list, 3), withoutPlace(fullMsgs(12), 3))
		wantNetCode(t, "DropMsg of none", impl.DropMsg(list, 12), impl.ErrRange)
		wantInt(t, "CountMsgs", impl.CountMsgs(list, 2), countOf(list, 2))
		wantTextOf(t, "MsgText", impl.MsgText(m), textOfMsg(m))
	}
}
