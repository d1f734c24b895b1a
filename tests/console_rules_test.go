package tests

import (
	"fmt"
	"slices"
	"strings"
	"sync"
	"testing"

	"loop.example/g00348/impl"
)

// Promise 1, of the console.

// consoleTexts are texts of right lines, of wrong ones, and of more than there may be.
func consoleTexts(t *testing.T) []string {
	t.Helper()
	d := draws(1)
	texts := []string{"", "\n", " ", "#", "x", "\x00", "\xff\xfe\n\x80", "run", "1 2 3", "2130706433", "-1", "\t", strings.Repeat("\n", 40), strings.Repeat("\n", 41), strings.Repeat("7 ", impl.MaxList), strings.Repeat("7 ", longList),
		strings.Repeat("x", impl.MaxText), strings.Repeat("x", tooLong), strings.Repeat("\n", impl.MaxText), strings.Repeat("\n", tooLong), strings.Repeat(" ", impl.MaxText), "publics " + strings.Repeat("7 ", longList), string(mixedBytes(3000)), string(mixedBytes(tooLong))}
	for n := 1; n <= 42; n++ {
		lines := mixedText(t, &d, n)
		texts = append(texts, textOfLines(lines...), strings.Join(lines, "\n"), strings.Join(lines, " "), strings.Join(lines, "\r\n"))
	}
	return texts
}

func consoleAnswers(text string) string {
	return told(impl.Console(text)) + told(impl.ReadNumbers(text))
}

func consoleCalls(t *testing.T) []call {
	t.Helper()
	var calls []call
	for i, text := range consoleTexts(t) {
		calls = append(calls, call{fmt.Sprint("console ", i), func() string { return consoleAnswers(text) }})
	}
	return calls
}

// Nothing is kept of a text for the next one: each begins with no gates, no numbers, no proof, and the first setting.
func TestConsolesKeepNothing(t *testing.T) {
	first := "run\nverify\nspoil 0\nconst 1\nrun\nprove\nverify\n"
	want := "error circuit\nerror circuit\nerror range\ngate 0\nvalues 1\nproof 228\naccepted\n"
	for _, text := range consoleTexts(t) {
		asksConsole(t, first, want)
		impl.Console(text)
	}
	asksConsole(t, first, want)
}

func TestConsolesSideBySide(t *testing.T) {
	texts := consoleTexts(t)
	want := make([]string, len(texts))
	for i, text := range texts {
		want[i] = consoleAnswers(text)
	}
	got := make([]string, len(texts))
	var all sync.WaitGroup
	for i, text := range texts {
		all.Go(func() { got[i] = consoleAnswers(text) })
	}
	all.Wait()
	if !slices.Equal(got, want) {
		t.Error("consoles side by side say other things than one by one")
	}
}

func TestNumbersThatAreReadAreNewMemory(t *testing.T) {
	for _, n := range []int{0, 1, 2, 15, impl.MaxList} {
		text := textOf("", numbersOf(n, 7)...)
		one, _ := impl.ReadNumbers(text)
		two, _ := impl.ReadNumbers(text)
		fillWith(one, -5)
		if !slices.Equal(two, numbersOf(n, 7)) {
			t.Error("two lists of", n, "share memory")
		}
	}
}

// No line's work panics; so a copy of the program is asked of which some does: with inputs of 13, with 13 bits, and when the gate at place 2 has joined and is told.

const panickingWork = `package impl

func RunCircuit(c Circuit, publics, inputs []int) ([]int, int) {
	if len(inputs) == 1 && inputs[0] == 13 {
		panic("13")
	}
	return steadyRunCircuit(c, publics, inputs)
}

func Select(bits, rate, grind int) (Setting, int) {
	if bits == 13 {
		var none []int
		none[bits] = 0
	}
	return steadySelect(bits, rate, grind)
}

func textOf(word string, numbers ...int) string {
	if word == "gate" && numbers[0] == 2 {
		panic("2")
	}
	return steadyTextOf(word, numbers...)
}
`

func isPanicking() (is bool) {
	defer func() {
		if recover() != nil {
			is = true
		}
	}()
	impl.Select(13, 1, 0)
	return false
}

func TestConsoleOfAPanickingCopy(t *testing.T) {
	if isPanicking() {
		t.Skip("this is the copy")
	}
	renamed := map[string]string{"RunCircuit": "steadyRunCircuit", "Select": "steadySelect", "textOf": "steadyTextOf"}
	asksACopyWith(t, renamed, panickingWork, "TestPanicsOfALine")
}

// TestPanicsOfALine is for the copy that panics: such a line is an error, the others are as without it.
func TestPanicsOfALine(t *testing.T) {
	if !isPanicking() {
		t.Skip("nothing panics")
	}
	asksConsole(t, "select 13 1 0", "error form\n")
	asksDialog(t, "input", "gate 0", "inputs 7", "ok", "select 1 2 0", "queries 2", "prove", "proof 340", "verify", "accepted")
	asksConsole(t,
		textOfLines("input", "inputs 7", "select 1 2 0", "prove", "select 13 1 0", "verify", "inputs 13", "run", "prove", "verify", "const 5", "inputs 7", "run", "prove", "verify"),
		textOfLines("gate 0", "ok", "queries 2", "proof 340", "error form", "accepted", "ok", "error form", "error form", "accepted", "gate 1", "ok", "values 7 5", "proof 340", "accepted"))
	asksConsole(t, strings.Repeat("select 13 1 0\n", 40), strings.Repeat("error form\n", 40))
	// What such a line has done by then is taken back.
	asksConsole(t, textOfLines("input", "input", "input", "inputs 3 4", "run", "input", "add 0 2", "run"), textOfLines("gate 0", "gate 1", "error form", "ok", "values 3 4", "error form", "error circuit", "values 3 4"))
}
