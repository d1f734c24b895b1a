package tests

import (
	"slices"
	"strconv"
	"strings"
	"testing"

	"loop.example/g00348/impl"
)

// Promise 17, of wrong words, numbers and lines, of bytes that are no blanks, and of two things that are wrong at once.

// rightLines are of every sort.
var rightLines = []string{"input", "public", "const 5", "add 0 0", "equal 0 0", "bit 0", "publics 3 4", "inputs 5", "select 1 2 0", "run", "prove", "verify", "spoil 8"}

const provedText = "input\ninputs 5\nprove\n"

// lastAnswer is what is said to the last line.
func lastAnswer(t *testing.T, text string) string {
	t.Helper()
	answers := asksLikeCalls(t, text)
	return strings.TrimSuffix(answers[len(answers)-1], "\n")
}

// asksOther wants a line to be none, wherever it stands, and to change nothing.
func asksOther(t *testing.T, line string) {
	t.Helper()
	asksConsole(t, line, "error form\n")
	asksConsole(t, textOfLines("input", "inputs 1", "publics", line, "run"), "gate 0\nok\nok\nerror form\nvalues 1\n")
}

func TestLinesThatAreNone(t *testing.T) {
	for _, line := range otherLines {
		if words := plainWords(line); len(words) > 0 && words[0][0] != '#' {
			asksOther(t, line)
		}
	}
	for _, line := range []string{
		"x", "Input", "INPUT", "inputz", "inpu", "input 1", "input input", "public 0", "public public", "const", "const 1 2", "const x", "add", "add 0", "add 0 0 0", "sub 0", "mul 0 0 0", "equal 0", "bit", "bit 0 0",
		"Publics 1", "publics1", "publics,1", "public 1", "publics 1,2", "publics publics", "publics # none", "publics 1 #", "inputs inputs", "inputs 1 2 x", "input s", "Inputs", "INPUTS 1",
		"select", "select 1", "select 1 1", "select 1 1 0 0", "select 1 1 x", "select x 1 0", "select 1 x 0", "select a b c", "Select 1 1 0", "selects 1 1 0", "select1 1 0", "select 1 1 0 #",
		"run 1", "run 0", "run run", "run #", "Run", "runs", "RUN", "r", "run prove", "runprove", "prove 1", "prove prove", "prove x", "Prove", "proof", "prov", "verify 1", "verify verify", "Verify", "verif", "verify -",
		"spoil", "spoil x", "spoil 1 2", "spoil 1 x", "spoil -1", "spoil -0", "spoil 00", "spoil 2130706433", "Spoil 1", "spoil1", "spoils 1", "spoil spoil", "spoil 0 0 0",
		"0", "1", "1 2 3", "gate 0", "ok", "accepted", "error form", "values", "queries 1", "-", "--", "!#", "x # none", "run # all", ".#", "\"run\"", "'", "//", ";", "quit", "exit", "help",
	} {
		asksOther(t, line)
		asksOther(t, "  "+line+" ")
		if got := lastAnswer(t, provedText+line); got != "error form" {
			t.Errorf("behind a proof %q says %q", line, got)
		}
	}
}

func TestNumbersThatAreNone(t *testing.T) {
	list := append(slices.Clone(noNumbers), "2147483647", "2147483648", "4294967295", "2130706432.", "2130706432x", "٠", "０", "½", "1\x00", "\x001", "1\x7f", "1\x80", "\xff")
	for _, bad := range wrongNumbers {
		list = append(list, strconv.Itoa(bad))
	}
	for _, n := range list {
		for _, line := range []string{"publics N", "inputs N", "publics 1 N", "inputs N 1", "publics 1 N 2", "inputs 0 0 N", "select N 1 0", "select 1 N 0", "select 1 1 N", "select N N N", "spoil N", "const N"} {
			asksOther(t, strings.ReplaceAll(line, "N", n))
		}
		for _, text := range []string{"N", " N", "N ", "1 N", "N 1", "1 N 2", "N N", "0 N"} {
			asksNoNumbers(t, strings.ReplaceAll(text, "N", n), impl.ErrForm)
		}
	}
}

// Blanks are bytes 32 alone: others part no words, and stand in none of a right line.
func TestOtherBytesPartNoWords(t *testing.T) {
	var others []string
	for c := range 256 {
		if c != ' ' && c != '\n' {
			others = append(others, string([]byte{byte(c)}))
		}
	}
	for _, b := range append(others, "\u0085", "\u00a0", "\u1680", "\u2003", "\u2028", "\u3000", "\ufeff") {
		for _, line := range rightLines {
			parted := strings.ReplaceAll(line, " ", b)
			if parted != line {
				asksLikeCalls(t, textOfLines("input", "inputs 5", parted, "run"))
				if strings.Trim(b, "0123456789") != "" {
					asksOther(t, parted)
				}
			}
		}
		if b == "#" {
			continue
		}
		asksOther(t, b)
		asksOther(t, b+" ")
		asksOther(t, b+"#")
		asksOther(t, b+" # none")
		asksOther(t, b+"run")
		asksOther(t, "run "+b)
		asksOther(t, b+" run")
		asksOther(t, "prove"+b)
		asksConsole(t, "#"+b, "")
		asksConsole(t, " #"+b+" run", "")
	}
	asksConsole(t, "run\r\n\r\n\t\n\v\n\f\n\x00\n", strings.Repeat("error form\n", 6))
}

// In each line of every sort any byte at any place, a byte 10 too.
func TestAnyByteAtAnyPlace(t *testing.T) {
	for _, line := range rightLines {
		for at := range len(line) + 1 {
			for c := range 256 {
				asksLikeCalls(t, "input\ninputs 5\n"+line[:at]+string([]byte{byte(c)})+line[at:]+"\nrun")
				if at < len(line) {
					asksLikeCalls(t, "input\ninputs 5\n"+line[:at]+string([]byte{byte(c)})+line[at+1:]+"\nrun")
				}
			}
		}
	}
}

func TestReadNumbersOfOtherBytes(t *testing.T) {
	for c := range 256 {
		b := string([]byte{byte(c)})
		if c == ' ' || c >= '0' && c <= '9' {
			continue
		}
		for _, text := range []string{b, "1" + b, b + "1", "1" + b + "2", "1 " + b + " 2", b + " 1", "1 " + b, "1 2" + b, b + b} {
			asksNoNumbers(t, text, impl.ErrForm)
		}
	}
	for _, text := range []string{"# 1", "1 # 2", "#", "publics 1", "1\n2", "1\n", "\n", "1\r\n", "x", "1 2 x", "1,2", "1\u00a02", "1\u20032", "\u0085", "१"} {
		asksNoNumbers(t, text, impl.ErrForm)
	}
}

// Numbers that are none are told ahead of too many of them, over the whole of the list.
func TestFormOfManyNumbers(t *testing.T) {
	for _, n := range []int{1, 2, impl.MaxList, longList, 2 * impl.MaxList} {
		for _, bad := range []string{"x", "-1", "01", "2130706433"} {
			for _, at := range []int{0, n / 2, n - 1} {
				words := slices.Repeat([]string{"7"}, n)
				words[at] = bad
				text := strings.Join(words, " ")
				asksNoNumbers(t, text, impl.ErrForm)
				asksConsole(t, "publics "+text, "error form\n")
				asksConsole(t, "inputs "+text, "error form\n")
			}
		}
	}
	asksNoNumbers(t, strings.Repeat("x ", impl.MaxText/2), impl.ErrForm)
	asksNoNumbers(t, strings.Repeat("x ", impl.MaxText), impl.ErrLong)
}

// A line of too many numbers to be one is none, also where they are more than MaxList.
func TestFormOfLinesOfManyNumbers(t *testing.T) {
	for _, n := range []int{4, 100, impl.MaxList, longList, 2 * impl.MaxList} {
		numbers := textOf("", slices.Repeat([]int{1}, n)...)
		for _, word := range []string{"select", "spoil", "run", "prove", "verify", "input", "public", "const", "add", "equal", "bit", "go", "1"} {
			asksOther(t, word+numbers)
		}
	}
}

// With two things wrong at once the form is told first, then the codes of the call in its order.
func TestOrderOfWhatIsTold(t *testing.T) {
	long := make([]int, longList)
	for _, c := range []struct{ text, want string }{
		{"select 17 9 x", "form"}, {"select 17 9 99 1", "form"}, {"select 17 9", "form"}, {"select 16 4 0", "range"}, {"select 17 1 0", "range"}, {"select 16 1 13", "range"}, {"select 16 0 0", "range"}, {"select 2130706432 2130706432 2130706432", "range"},
		{"select 16 1 0", "secure"}, {"select 16 3 9", "secure"}, {"spoil x", "form"}, {"spoil 9999 9999", "form"}, {"spoil 2130706433", "form"}, {"spoil 2130706432", "range"},
		{"bit 15", "form"}, {"bit 14", "circuit"}, {"add 15 x", "form"}, {"add 14 15", "form"}, {"add 14 14", "circuit"}, {"const 2130706433", "form"}, {strings.Repeat("input\n", 15) + "const x", "form"}, {strings.Repeat("input\n", 15) + "bit 15", "form"}, {strings.Repeat("input\n", 15) + "const 1", "circuit"},
		{"publics 1\nrun", "circuit"}, {"inputs 1\nprove", "circuit"}, {"publics 1\nverify", "circuit"}, {"run x", "form"}, {"prove x", "form"}, {"verify x", "form"},
		{"input\npublics 1\nverify", "public"}, {"input\nverify", "form"}, {"public\nverify", "public"}, {"public\npublics 1\nverify", "form"},
		{"const 2\nbit 0\nrun", "unsatisfied"}, {"const 2\nbit 0\ninputs 1\nrun", "size"}, {"const 2\nbit 0\npublics 1\nprove", "size"}, {"const 2\nbit 0\nprove", "unsatisfied"}, {"const 2\nbit 0\nverify", "form"}, {"const 2\nbit 0\npublics 1\nverify", "public"},
		{"input\npublic\ninputs 1 1\npublics\nrun", "size"}, {provedText + "publics 1\nspoil 39\nverify", "public"}, {provedText + "select 1 1 0\nspoil 39\nverify", "form"}, {provedText + "select 1 1 0\npublics 1\nverify", "public"},
		{textOf("publics", long...) + "\nrun", "long"}, {textOf("inputs", long...) + "\nprove", "long"}, {textOf("publics", long...) + "\nverify", "circuit"}, {textOf("inputs", long...) + " x", "form"},
		{"public\n" + textOf("publics", long...) + "\nverify", "long"}, {"public\n" + textOf("inputs", long...) + "\nverify", "public"}, {"const 2\nbit 0\n" + textOf("inputs", long...) + "\nprove", "long"}, {provedText + textOf("publics", long...) + "\nspoil 39\nverify", "long"},
		{provedText + "spoil 228", "range"}, {provedText + "spoil 228 1", "form"}, {provedText + "spoil 39\ninputs\nprove", "size"},
	} {
		if got := lastAnswer(t, c.text); got != "error "+c.want {
			t.Errorf("%.400q says %q, is to say error %s", c.text, got, c.want)
		}
	}
}

// Whatever is wrong changes nothing: what is said to the lines behind is what is said without it.
func TestErrorsChangeNothing(t *testing.T) {
	lines := append(slices.Clone(rootLines), "publics 49", "inputs 7", "select 1 2 1", "run", "prove", "verify", "spoil 39", "verify", "spoil 39", "verify", "run", "prove", "verify")
	answers := asksLikeCalls(t, textOfLines(lines...))
	if got := answers[len(answers)-1]; got != "accepted\n" {
		t.Fatal(answers)
	}
	wrong := []string{
		"bit 14", "add 9 9", "bit 15", "publics x", "publics 49 -1", "inputs 2130706433", textOf("publics", make([]int, longList)...) + " x", textOf("inputs", make([]int, longList)...) + " -1",
		"select 17 1 0", "select 16 1 0", "select 1 4 1", "select 1 2 13", "select 1 2", "spoil 9999", "spoil 39 39", "spoil", "go", "prove now", "\x00", "\t",
	}
	for _, bad := range wrong {
		for i := range len(lines) + 1 {
			got := asksLikeCalls(t, textOfLines(slices.Insert(slices.Clone(lines), i, bad)...))
			if !strings.HasPrefix(got[i], "error ") || !slices.Equal(slices.Delete(got, i, i+1), answers) {
				t.Fatalf("%.60q at line %d says %q", bad, i, got)
			}
		}
	}
}
