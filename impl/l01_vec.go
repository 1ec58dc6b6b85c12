package impl

import (
	"strconv"
	"strings"
)

const OK = 0
const ErrForm = 1
const ErrMany = 2
const ErrRange = 3
const ErrNone = 4
const ErrText = 5
const ErrTaken = 6
const ErrOld = 7
const ErrState = 8
const ErrLease = 9
const ErrDown = 10
const Dim = 3
const MaxPart = 1000

type IntResult struct {
	Code  int64
	Value int64
}
type IntsResult struct {
	Code int64
	List []int64
}
type TextResult struct {
	Code int64
	Text string
}

// vector is an array, not a slice, so that it is copied whole: what a caller
// handed in is read once and never shared with an answer.
type vector [Dim]int64

func isPart(n int64) bool {
	return -MaxPart <= n && n <= MaxPart
}

func VecFault(v []int64) int64 {
	if len(v) != Dim {
		return ErrForm
	}
	for _, part := range v {
		if !isPart(part) {
			return ErrRange
		}
	}
	return OK
}

func vectorOf(v []int64) (vector, int64) {
	var whole vector
	if code := VecFault(v); code != OK {
		return whole, code
	}
	for i := range Dim {
		whole[i] = v[i]
	}
	return whole, OK
}

func listOf(v vector) []int64 {
	list := make([]int64, Dim)
	for i, part := range v {
		list[i] = part
	}
	return list
}

// pairOf asks all codes of a ahead of those of b.
func pairOf(a []int64, b []int64) (vector, vector, int64) {
	first, code := vectorOf(a)
	if code != OK {
		return vector{}, vector{}, code
	}
	second, code := vectorOf(b)
	if code != OK {
		return vector{}, vector{}, code
	}
	return first, second, OK
}

func ScoreOf(a []int64, b []int64) IntResult {
	first, second, code := pairOf(a, b)
	if code != OK {
		return IntResult{Code: code}
	}
	sum := int64(0)
	for i := range Dim {
		apart := first[i] - second[i]
		sum += apart * apart
	}
	return IntResult{Value: sum}
}

func DotOf(a []int64, b []int64) IntResult {
	first, second, code := pairOf(a, b)
	if code != OK {
		return IntResult{Code: code}
	}
	sum := int64(0)
	for i := range Dim {
		sum += first[i] * second[i]
	}
	return IntResult{Value: sum}
}

func meanFault(list []int64, n int64) int64 {
	if n < 1 || n > 1000 {
		return ErrRange
	}
	if len(list) != Dim {
		return ErrForm
	}
	for _, sum := range list {
		if sum < -MaxPart*n || sum > MaxPart*n {
			return ErrRange
		}
	}
	return OK
}

// nearestMean lifts the sum above 0 ahead of the division, because a division
// in Go rounds towards 0: of two means as near the greater one would be lost
// below 0.
func nearestMean(sum int64, n int64) int64 {
	lifted := sum + MaxPart*n
	return (2*lifted+n)/(2*n) - MaxPart
}

func MeanOf(list []int64, n int64) IntsResult {
	if code := meanFault(list, n); code != OK {
		return IntsResult{Code: code}
	}
	var mean vector
	for i := range Dim {
		mean[i] = nearestMean(list[i], n)
	}
	return IntsResult{List: listOf(mean)}
}

func VecText(v []int64) TextResult {
	whole, code := vectorOf(v)
	if code != OK {
		return TextResult{Code: code}
	}
	words := make([]string, Dim)
	for i, part := range whole {
		words[i] = strconv.FormatInt(part, 10)
	}
	return TextResult{Text: strings.Join(words, ",")}
}

// byteAt tells 0 behind the end: no vector's text has a byte 0, so the machine
// needs no other sign of the end.
func byteAt(text string, at int) byte {
	if at >= len(text) {
		return 0
	}
	return text[at]
}

func isDigit(b byte) bool {
	return '0' <= b && b <= '9'
}

// readVector is a machine: its labels are its states, and it goes to wrong as
// soon as a byte is none that VecText would have written there.
func readVector(text string) (vector, bool) {
	var whole vector
	var sign, size int64
	place, at := 0, 0
part:
	sign, size = 1, 0
	if byteAt(text, at) == '-' {
		sign = -1
		at++
	}
	if !isDigit(byteAt(text, at)) {
		goto wrong
	}
	if byteAt(text, at) != '0' {
		goto digit
	}
	if sign < 0 {
		goto wrong
	}
	at++
	goto ended
digit:
	size = size*10 + int64(byteAt(text, at)-'0')
	if size > MaxPart { // asked at each digit: a long text must not overflow
		goto wrong
	}
	at++
	if isDigit(byteAt(text, at)) {
		goto digit
	}
ended:
	whole[place] = sign * size
	place++
	if place == Dim {
		goto last
	}
	if byteAt(text, at) != ',' {
		goto wrong
	}
	at++
	goto part
last:
	if at == len(text) {
		return whole, true
	}
wrong:
	return vector{}, false
}

func ParseVec(text string) IntsResult {
	whole, ok := readVector(text)
	if !ok {
		return IntsResult{Code: ErrText}
	}
	return IntsResult{List: listOf(whole)}
}
