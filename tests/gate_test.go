package tests

import (
	"math"
	"strconv"
	"strings"
	"testing"

	"loop.example/g00348/impl"
)

// Promise 12, of gates' texts.

// gateTexts are gates and their texts, of all ops and places, and of K at its edges.
func gateTexts() map[string]impl.Gate {
	texts := map[string]impl.Gate{"input": input, "public": public}
	for _, k := range someNumbers(30) {
		texts["const "+strconv.Itoa(k)] = constant(k)
	}
	for a := range 15 {
		texts["bit "+strconv.Itoa(a)] = bitGate(a)
		for b := range 15 {
			places := " " + strconv.Itoa(a) + " " + strconv.Itoa(b)
			texts["add"+places], texts["sub"+places] = sumGate(a, b), lessGate(a, b)
			texts["mul"+places], texts["equal"+places] = mulGate(a, b), likeGate(a, b)
		}
	}
	return texts
}

func asksReads(t *testing.T, text string, want impl.Gate) {
	t.Helper()
	if g, code := impl.ReadGate(text); g != want || code != impl.OK {
		t.Errorf("ReadGate of %d bytes %.60q: %v %d", len(text), text, g, code)
	}
}

func asksNoGate(t *testing.T, text string, want int) {
	t.Helper()
	if g, code := impl.ReadGate(text); g != (impl.Gate{}) || code != want {
		t.Errorf("ReadGate of %d bytes %.60q: %v %d, not %d", len(text), text, g, code, want)
	}
}

func asksNoText(t *testing.T, g impl.Gate) {
	t.Helper()
	if text, code := impl.GateText(g); text != "" || code != impl.ErrBad {
		t.Errorf("GateText of %v: %q %d", g, text, code)
	}
}

func TestGatesAreReadBack(t *testing.T) {
	for text, g := range gateTexts() {
		if got, code := impl.GateText(g); got != text || code != impl.OK {
			t.Errorf("GateText of %v: %q %d, not %q", g, got, code, text)
		}
		asksReads(t, text, g)
	}
}

func TestGateTextsByHand(t *testing.T) {
	for text, g := range map[string]impl.Gate{
		"input": {Op: 1}, "public": {Op: 2}, "const 0": {Op: 3}, "const 2130706432": {Op: 3, K: 2130706432},
		"add 0 14": {Op: 4, B: 14}, "sub 14 0": {Op: 5, A: 14}, "mul 3 10": {Op: 6, A: 3, B: 10}, "equal 1 2": {Op: 7, A: 1, B: 2}, "bit 14": {Op: 8, A: 14},
	} {
		if got, code := impl.GateText(g); got != text || code != impl.OK {
			t.Errorf("GateText of %v: %q %d, not %q", g, got, code, text)
		}
		asksReads(t, text, g)
	}
}

func TestBlanksBetweenWords(t *testing.T) {
	for text, g := range gateTexts() {
		asksReads(t, " "+text, g)
		asksReads(t, text+" ", g)
		asksReads(t, "   "+strings.ReplaceAll(text, " ", "    ")+"  ", g)
	}
	far := strings.Repeat(" ", impl.MaxText-len("add37"))
	asksReads(t, "add"+far[:1]+"3"+far[1:]+"7", sumGate(3, 7))
	asksReads(t, "add 3 7"+far[2:], sumGate(3, 7))
	asksReads(t, far[2:]+"add 3 7", sumGate(3, 7))
}

func TestTextsBeyondMaxText(t *testing.T) {
	far := strings.Repeat(" ", impl.MaxText)
	for _, text := range []string{
		far + " ", far + "input", "input" + far, "add 3 7" + far, "const" + far + "5", strings.Repeat("x", tooLong), "const " + strings.Repeat("1", impl.MaxText), strings.Repeat("add ", impl.MaxText),
		("input" + far)[:tooLong],
	} {
		asksNoGate(t, text, impl.ErrLong)
	}
	for _, text := range []string{far, strings.Repeat("x", impl.MaxText), "const " + strings.Repeat("1", impl.MaxText-6), "const " + strings.Repeat("0", impl.MaxText-6), strings.Repeat("add ", impl.MaxText/4)} {
		asksNoGate(t, text, impl.ErrForm)
	}
}

func TestWordsThatAreNoGate(t *testing.T) {
	for _, text := range []string{
		"", " ", "    ", "go", "gate", "Input", "INPUT", "inputs", "inpu", "in put", "input0", "input,", "publics", "Public", "constant 1", "cons 1", "const1", "ADD 1 2", "adds 1 2", "add1 2", "ad 1 2",
		"equals 1 2", "eq 1 2", "bits 1", "1", "1 2", "0", "3 5", "const", "add", "bit", "equal", "K", "const K", "add A B", "-", "\x00", "\xff", "é",
		"input 0", "input 1", "input input", "public 0", "public public", "input public",
		"const 1 2", "const const", "const 1 const", "add 1", "sub 1", "mul 1", "equal 1", "add 1 2 3", "sub 0 0 0", "mul 1 2 3 4", "equal 1 1 1", "bit 1 2", "bit 0 0", "bit bit",
		"1 add 2", "1 2 add", "5 const", "add 1 2 add 1 2", "#", "# input", "input #",
	} {
		asksNoGate(t, text, impl.ErrForm)
	}
}

// Blanks are bytes 32 alone.
func TestOtherBytesAreNoBlanks(t *testing.T) {
	for c := range 256 {
		if c == ' ' {
			continue
		}
		b := string([]byte{byte(c)})
		for _, text := range []string{"input" + b, b + "input", "const" + b + "5", "add 1" + b + "2", "add" + b + "1 2", "bit 1 " + b, b + " bit 1"} {
			asksNoGate(t, text, impl.ErrForm)
		}
	}
	for _, text := range []string{"add\t1\t2", "add\u00a01\u00a02", "add\u20031\u20032", "add\u30001 2", "input\n", "input\r", "\u0085input"} {
		asksNoGate(t, text, impl.ErrForm)
	}
}

// noNumbers are no numbers' texts, or out of all bounds of a gate.
var noNumbers = []string{
	"x", "-", "+", "-0", "+0", "+1", "-1", "-2", "--1", "- 1", "00", "01", "007", "0x1", "0b1", "1_0", "1e1", "1.0", "1.", ".1", "1,", "1-", "1x", "x1", "٣", "१",
	"999999999999999999", "-999999999999999999", "1000000000000000000", "9223372036854775807", "9223372036854775808", "-9223372036854775808", "18446744073709551616", "18446744073709551617",
	"4294967296", "4294967297", "0000000000000000001", "00000000000000000000", "2130706433", "2130706434", "4261412866", strings.Repeat("9", 40), strings.Repeat("0", 400), "1" + strings.Repeat("0", 400),
}

func TestNumbersOfNoGate(t *testing.T) {
	for _, n := range noNumbers {
		for _, text := range []string{"const ?", "bit ?", "add ? 2", "add 2 ?", "sub ? 2", "sub 2 ?", "mul ? 2", "mul 2 ?", "equal ? 2", "equal 2 ?", "add ? ?"} {
			asksNoGate(t, strings.ReplaceAll(text, "?", n), impl.ErrForm)
		}
	}
	for _, n := range []int{15, 16, 100, prime - 1} {
		number := strconv.Itoa(n)
		for _, text := range []string{"bit ?", "add ? 2", "add 2 ?", "sub ? 2", "sub 2 ?", "mul ? 2", "mul 2 ?", "equal ? 2", "equal 2 ?"} {
			asksNoGate(t, strings.ReplaceAll(text, "?", number), impl.ErrForm)
		}
		asksReads(t, "const "+number, constant(n))
	}
}

// noPlaces are out of all that a gate may use.
var noPlaces = []int{-1, -2, 15, 16, 255, 256, 1 << 32, 1<<32 + 1, prime, math.MaxInt, math.MinInt}

// gatesWith are gates of one wrong part each.
func gatesWith(bad int) []impl.Gate {
	var list []impl.Gate
	for _, op := range []int{impl.GaAdd, impl.GaSub, impl.GaMul, impl.GaEqual} {
		list = append(list, impl.Gate{Op: op, A: bad}, impl.Gate{Op: op, B: bad}, impl.Gate{Op: op, A: bad, B: bad})
	}
	return append(list, bitGate(bad))
}

// gatesWithMore have something that gates of their op do not have.
func gatesWithMore() []impl.Gate {
	var list []impl.Gate
	for _, n := range []int{1, 2, -1, prime - 1, prime, 1 << 32, math.MaxInt, math.MinInt} {
		for _, op := range []int{impl.GaInput, impl.GaPublic} {
			list = append(list, impl.Gate{Op: op, A: n}, impl.Gate{Op: op, B: n}, impl.Gate{Op: op, K: n}, impl.Gate{Op: op, A: n, B: n, K: n})
		}
		list = append(list, impl.Gate{Op: impl.GaConst, A: n, K: 5}, impl.Gate{Op: impl.GaConst, B: n}, impl.Gate{Op: impl.GaBit, B: n}, impl.Gate{Op: impl.GaBit, K: n})
		for _, op := range []int{impl.GaAdd, impl.GaSub, impl.GaMul, impl.GaEqual} {
			list = append(list, impl.Gate{Op: op, K: n})
		}
	}
	return list
}

var noOps = []int{0, 9, 10, -1, -8, 16, 255, 256, 257, 1 << 32, 1<<32 + 1, math.MaxInt, math.MinInt}

// gatesOfNoOp are of no op, with parts and without.
func gatesOfNoOp() []impl.Gate {
	var list []impl.Gate
	for _, op := range noOps {
		list = append(list, impl.Gate{Op: op}, impl.Gate{Op: op, A: 1, B: 2}, impl.Gate{Op: op, K: 7})
	}
	return list
}

func constantsOfNoNumber() []impl.Gate {
	var list []impl.Gate
	for _, k := range wrongNumbers {
		list = append(list, constant(k))
	}
	return list
}

func TestNoTextOfWrongGates(t *testing.T) {
	asksNoText(t, impl.Gate{})
	for _, bad := range noPlaces {
		for _, g := range gatesWith(bad) {
			asksNoText(t, g)
		}
	}
	for _, list := range [][]impl.Gate{gatesWithMore(), gatesOfNoOp(), constantsOfNoNumber()} {
		for _, g := range list {
			asksNoText(t, g)
		}
	}
}
