package tests

import (
	"slices"
	"strconv"
	"strings"
	"testing"

	"loop.example/g00348/impl"
)

// Promise 17, of texts, lines and numbers at the edges that chapter 17 and rule 8 name.

func TestMostLines(t *testing.T) {
	if impl.MaxLines != 40 {
		t.Error(impl.MaxLines)
	}
}

func TestTextsOfNothing(t *testing.T) {
	for _, text := range []string{"", "\n", " ", " \n", "\n\n", "\n \n", "     \n   ", "#", "#\n", "# input\n", " # input", "\n#", strings.Repeat("\n", 40), strings.Repeat(" \n", 40), strings.Repeat("#\n", 40), strings.Repeat("\n", 39) + "#", strings.Repeat(" ", impl.MaxText), "#" + strings.Repeat("x", impl.MaxText-1)} {
		asksConsole(t, text, "")
		asksLikeCalls(t, text)
	}
}

// What stands behind the last byte 10 is a line if it has a byte.
func TestTextsWithoutALastByte10(t *testing.T) {
	d := draws(10)
	for n := 1; n <= 40; n++ {
		text := textOfLines(mixedText(t, &d, n)...)
		want := strings.Join(asksLikeCalls(t, text), "")
		asksConsole(t, text[:len(text)-1], want)
	}
	for text, want := range map[string]string{"input": "gate 0\n", "input\nrun": "gate 0\nerror size\n", "run\n\nrun": "error circuit\nerror circuit\n", "\nrun": "error circuit\n", "r": "error form\n", "run\n ": "error circuit\n", "run\n#": "error circuit\n"} {
		asksConsole(t, text, want)
	}
}

func TestBlanksOfLines(t *testing.T) {
	lines := append(slices.Clone(rootLines), "const 5", "publics 49", "inputs 7", "select 2 3 1", "run", "prove", "verify", "spoil 39", "verify")
	answers := asksLikeCalls(t, textOfLines(lines...))
	if answers[len(answers)-1] == "error form\n" || answers[len(answers)-3] != "accepted\n" {
		t.Fatal(answers)
	}
	for _, n := range []int{1, 2, 3, 50, 400} {
		far := strings.Repeat(" ", n)
		var ahead, behind, between, all []string
		for _, line := range lines {
			ahead, behind = append(ahead, far+line), append(behind, line+far)
			between = append(between, strings.ReplaceAll(line, " ", far))
			all = append(all, far+strings.ReplaceAll(line, " ", far)+far)
		}
		for _, blanks := range [][]string{ahead, behind, between, all} {
			asksConsole(t, textOfLines(blanks...), strings.Join(answers, ""))
		}
	}
	far := strings.Repeat(" ", impl.MaxText-len("inputinputs5run\n\n"))
	asksConsole(t, "input\ninputs"+far+"5\nrun", "gate 0\nok\nvalues 5\n")
	asksConsole(t, far[1:]+" input\ninputs5\nrun", "gate 0\nerror form\nerror size\n")
	asksConsole(t, "input\ninputs 5\nrun"+far[1:], "gate 0\nok\nvalues 5\n")
}

// Also lines that say nothing are lines.
func TestAsManyLinesAsThereMayBe(t *testing.T) {
	for _, line := range []string{"", " ", "#", "# input", "run", "input", "publics 1 2", "go", "select 1 1 0", "x\x00\xff"} {
		full := strings.Repeat(line+"\n", 40)
		asksLikeCalls(t, full)
		for _, more := range []string{"\n", " ", "#", "run", "run\n", "x", "\x00", "\n\n", "run\nrun"} {
			asksNoConsole(t, full+more, impl.ErrMany)
			asksNoConsole(t, more+"\n"+full, impl.ErrMany)
			asksLikeCalls(t, strings.Repeat(line+"\n", 38)+more)
		}
		asksNoConsole(t, strings.Repeat(line+"\n", 41), impl.ErrMany)
		asksNoConsole(t, strings.Repeat(line+"\n", 1000), impl.ErrMany)
	}
	asksConsole(t, strings.Repeat("run\n", 39)+"run", strings.Repeat("error circuit\n", 40))
	asksConsole(t, strings.Repeat("\n", 39)+"run", "error circuit\n")
	asksNoConsole(t, strings.Repeat("\n", 40)+"run", impl.ErrMany)
	asksNoConsole(t, strings.Repeat("\n", 41), impl.ErrMany)
	asksNoConsole(t, strings.Repeat("\n", impl.MaxText), impl.ErrMany)
	asksNoConsole(t, strings.Repeat("#\n", impl.MaxText/2), impl.ErrMany)
}

// Too long is told ahead of too many lines.
func TestTextsAtMaxText(t *testing.T) {
	for _, ahead := range []string{"", "input\nrun\n", "input\ninputs 3\nrun\n", "go\n"} {
		far := strings.Repeat(" ", impl.MaxText-len(ahead))
		want := strings.Join(asksLikeCalls(t, ahead), "")
		asksConsole(t, ahead+far, want)
		asksConsole(t, ahead+far[1:]+"\n", want)
		asksConsole(t, ahead+"#"+strings.Repeat("\xff", len(far)-1), want)
		asksConsole(t, ahead+strings.Repeat("x", len(far)), want+"error form\n")
		asksConsole(t, ahead+"run"+far[3:], want+plainAnswers(ahead + "run")[strings.Count(ahead, "\n")])
		asksNoConsole(t, ahead+far+" ", impl.ErrLong)
		asksNoConsole(t, ahead+far+"\n", impl.ErrLong)
		asksNoConsole(t, ahead+"#"+far, impl.ErrLong)
		asksNoConsole(t, ahead+far+far, impl.ErrLong)
	}
	for _, text := range []string{strings.Repeat("\n", tooLong), strings.Repeat("run\n", impl.MaxText), strings.Repeat("x", tooLong), strings.Repeat(" ", 2*impl.MaxText), strings.Repeat("\n", 41) + strings.Repeat(" ", impl.MaxText)} {
		asksNoConsole(t, text, impl.ErrLong)
	}
}

// A line has any number of numbers, up to as many as a text has room for.
func TestAnyNumberOfNumbers(t *testing.T) {
	for _, word := range []string{"publics", "inputs"} {
		for _, n := range []int{0, 1, 16, impl.MaxList - 1, impl.MaxList, longList, longList + 1, 2 * impl.MaxList, 16000} {
			for _, number := range []string{" 0", " 1"} {
				line := word + strings.Repeat(number, n)
				asksConsole(t, line, "ok\n")
				asksConsole(t, textOfLines(line, word+" 1"), "ok\nok\n")
			}
		}
		for _, n := range []int{impl.MaxList, longList} {
			asksConsole(t, textOf(word, numbersOf(n, 3)...), "ok\n")
		}
		most := word + strings.Repeat(" 1", (impl.MaxText-len(word)-1)/2) + "\n"
		far := strings.Repeat(" ", impl.MaxText-len(most))
		asksConsole(t, most+far, "ok\n")
		asksNoConsole(t, most+far+" ", impl.ErrLong)
		asksNoConsole(t, textOf(word, numbersOf(longList, 3)...)+strings.Repeat(" ", impl.MaxText), impl.ErrLong)
	}
}

// More numbers than the calls take are told by these alone, and laid aside for others again.
func TestMoreNumbersThanCallsTake(t *testing.T) {
	most, more := slices.Repeat([]int{1}, impl.MaxList), slices.Repeat([]int{1}, longList)
	// What inputs there are is nothing to a verifier.
	for _, c := range []struct{ gate, word, other, most, more, moreOfOther string }{
		{"public", "publics", "inputs", "error public", "error long", "accepted"},
		{"input", "inputs", "publics", "accepted", "accepted", "error long"},
	} {
		asksDialog(t, c.gate, "gate 0", c.word+" 8", "ok", "run", "values 8", "prove", "proof 228", "verify", "accepted",
			textOf(c.word, most...), "ok", "run", "error size", "prove", "error size", "verify", c.most,
			textOf(c.word, more...), "ok", "run", "error long", "prove", "error long", "verify", c.more, c.word+" x", "error form", "run", "error long",
			c.word+" 8", "ok", "run", "values 8", "verify", "accepted",
			textOf(c.other, more...), "ok", "run", "error long", "prove", "error long", "verify", c.moreOfOther,
			c.other, "ok", "run", "values 8", "verify", "accepted", c.word+" 9", "ok", "run", "values 9")
		asksDialog(t, textOf(c.word, most...), "ok", "run", "error circuit", "prove", "error circuit", "verify", "error circuit",
			textOf(c.word, more...), "ok", "run", "error long", "prove", "error long", "verify", "error circuit")
	}
	asksDialog(t, "input", "gate 0", "public", "gate 1", textOf("publics", more...), "ok", "run", "error long", "prove", "error long", "verify", "error long",
		"publics", "ok", textOf("inputs", more...), "ok", "run", "error long", "prove", "error long", "verify", "error public", "publics 1", "ok", "verify", "error form")
	asksDialog(t, "input", "gate 0", "publics", "ok", "inputs", "ok", "run", "error size", "inputs 1", "ok", "run", "values 1", "publics", "ok", "run", "values 1")
}

func TestManyNumbersInEveryOrder(t *testing.T) {
	zeros := make([]int, longList)
	lines := []string{textOf("publics", zeros...), textOf("inputs", zeros...), "publics 49", "inputs 7", "run", "prove", "verify"}
	eachTextOf(lines, 3, "", func(text string) { asksLikeCalls(t, text) })
	eachTextOf(lines, 3, textOfLines(append(rootLines, "publics 49", "inputs 7", "prove")...), func(text string) { asksLikeCalls(t, text) })
}

// Fifteen gates, and seven of them public, are as many as there may be; what is one too many changes nothing.
func TestGatesThatAreOneTooMany(t *testing.T) {
	var turns []string
	for i := range 15 {
		turns = append(turns, "input", textOf("gate", i))
	}
	turns = append(turns, "input", "error circuit", "public", "error circuit", "const 1", "error circuit", "add 0 0", "error circuit", "bit 14", "error circuit",
		textOf("inputs", numbersOf(15, 0)...), "ok", "run", textOf("values", numbersOf(15, 0)...), "prove", "proof 804", "verify", "accepted")
	asksDialog(t, turns...)
	turns = nil
	for i := range 7 {
		turns = append(turns, "public", textOf("gate", i))
	}
	turns = append(turns, "public", "error circuit", "input", "gate 7", "public", "error circuit", "const 0", "gate 8",
		textOf("publics", numbersOf(7, 0)...), "ok", "inputs 5", "ok", "run", textOf("values", append(numbersOf(7, 0), 5, 0)...), "prove", "proof 580", "verify", "accepted")
	asksDialog(t, turns...)
}

// A place that no gate may have is no gate's text; one that none ahead has is not right where it stands.
func TestGatesThatAreNotRightWhereTheyStand(t *testing.T) {
	for n := range 15 {
		ahead := slices.Repeat([]string{"input"}, n)
		for place := range 20 {
			for _, text := range []string{"bit P", "add P 0", "add 0 P", "sub P 0", "sub 0 P", "mul P 0", "mul 0 P", "equal P 0", "equal 0 P", "add P P", "mul P P"} {
				want := textOf("gate", n)
				switch {
				case place > 14:
					want = "error form"
				case place >= n:
					want = "error circuit"
				}
				line := strings.ReplaceAll(text, "P", strconv.Itoa(place))
				answers := asksLikeCalls(t, textOfLines(append(ahead, line, "const 7")...))
				next := n
				if place < n {
					next++
				}
				if got := answers[n:]; got[0] != want+"\n" || next < 15 && got[1] != textOf("gate", next)+"\n" {
					t.Fatal(n, "gates and", line, "say", got, "are to say", want)
				}
			}
		}
	}
}

func TestNumbersAtTheirEdges(t *testing.T) {
	for _, n := range someNumbers(20) {
		is := strconv.Itoa(n)
		asksDialog(t, "const "+is, "gate 0", "input", "gate 1", "public", "gate 2", "inputs "+is, "ok", "publics "+is, "ok", "equal 0 1", "gate 3", "equal 1 2", "gate 4", "run", textOf("values", n, n, n, n, n), "prove", "proof 452", "verify", "accepted")
	}
}

// Without a proof there is no byte.
func TestSpoilsOfNoProof(t *testing.T) {
	for _, ahead := range []string{"", "input\ninputs 5\n", "input\n", "input\nprove\n", "public\nbit 0\npublics 2\nprove\n", "publics 1\ninputs 1\nselect 1 1 1\n"} {
		for _, n := range []int{0, 1, 31, 227, 228, 65536, prime - 1} {
			answers := asksLikeCalls(t, ahead+textOf("spoil", n))
			if last := answers[len(answers)-1]; last != "error range\n" {
				t.Errorf("%q and spoil %d say %q", ahead, n, last)
			}
		}
	}
}

func asksNumbers(t *testing.T, text string, want []int) {
	t.Helper()
	if got, code := impl.ReadNumbers(text); !slices.Equal(got, want) || code != impl.OK {
		t.Fatalf("ReadNumbers of %d bytes %.200q: %d numbers %d, not %d", len(text), text, len(got), code, len(want))
	}
}

func asksNoNumbers(t *testing.T, text string, want int) {
	t.Helper()
	if got, code := impl.ReadNumbers(text); len(got) != 0 || code != want {
		t.Fatalf("ReadNumbers of %d bytes %.200q: %d numbers %d, not %d", len(text), text, len(got), code, want)
	}
}

func TestReadNumbers(t *testing.T) {
	for text, want := range map[string][]int{
		"": nil, " ": nil, "      ": nil, "0": {0}, "1": {1}, "2130706432": {prime - 1}, "0 0": {0, 0}, " 1  0 2130706432 ": {1, 0, prime - 1}, "10 9 8": {10, 9, 8}, "   7": {7}, "7   ": {7},
	} {
		asksNumbers(t, text, want)
	}
	d := draws(4)
	for n := range 100 {
		list := numbersOf(n, n)
		line := strings.TrimPrefix(textOf("", list...), " ")
		asksNumbers(t, line, list)
		asksNumbers(t, padded(line, &d), list)
		for _, far := range []string{"  ", strings.Repeat(" ", 300)} {
			asksNumbers(t, far+strings.ReplaceAll(line, " ", far)+far, list)
		}
	}
}

func TestReadNumbersAtItsBounds(t *testing.T) {
	most, more := numbersOf(impl.MaxList, 0), slices.Repeat([]int{7}, longList)
	asksNumbers(t, textOf("", most...), most)
	asksNumbers(t, textOf("", more[1:]...)+"   ", more[1:])
	asksNoNumbers(t, textOf("", more...), impl.ErrMany)
	asksNoNumbers(t, strings.Repeat("1 ", impl.MaxText/2), impl.ErrMany)
	asksNoNumbers(t, strings.Repeat(" 0", impl.MaxText/2), impl.ErrMany)
	far := strings.Repeat(" ", impl.MaxText)
	asksNumbers(t, far, nil)
	asksNumbers(t, far[1:]+"3", []int{3})
	asksNumbers(t, "3"+far[2:]+"4", []int{3, 4})
	for _, text := range []string{far + " ", "3" + far, far + "x", strings.Repeat("1 ", impl.MaxText), strings.Repeat("x", tooLong), strings.Repeat("1", tooLong), far + far, strings.Repeat("\n", tooLong)} {
		asksNoNumbers(t, text, impl.ErrLong)
	}
	for _, digit := range []string{"0", "1", "9"} {
		asksNoNumbers(t, strings.Repeat(digit, impl.MaxText), impl.ErrForm)
	}
}
