package tests

import (
	"regexp"
	"slices"
	"strconv"
	"strings"
	"testing"

	"loop.example/g00348/impl"
)

// Promise 17, of lines of every sort in every order. Texts and lines at their edges are tested in console_edges_test.go, wrong ones in console_faults_test.go.

// plainDesk is what chapter 17 says that there is.
type plainDesk struct {
	c               impl.Circuit
	publics, inputs []int
	set             impl.Setting
	proof           []byte
}

var consoleSource = impl.Source{State: hashed("source", "console")}

func plainLines(text string) []string {
	var lines []string
	for text != "" {
		line, rest, _ := strings.Cut(text, "\n")
		lines, text = append(lines, line), rest
	}
	return lines
}

func plainWords(line string) []string {
	var words []string
	from := 0
	for at := 0; at <= len(line); at++ {
		if at == len(line) || line[at] == 32 {
			if from < at {
				words = append(words, line[from:at])
			}
			from = at + 1
		}
	}
	return words
}

var numberText = regexp.MustCompile(`^(0|[1-9][0-9]{0,17})$`)

// plainNumbers is not ok if one of the words is no number below Prime.
func plainNumbers(words []string) ([]int, bool) {
	var list []int
	for _, word := range words {
		n, err := strconv.Atoi(word)
		if !numberText.MatchString(word) || err != nil || n >= prime {
			return nil, false
		}
		list = append(list, n)
	}
	return list, true
}

func textOf(word string, numbers ...int) string {
	for _, n := range numbers {
		word += " " + strconv.Itoa(n)
	}
	return word
}

func gateText(t *testing.T, g impl.Gate) string {
	t.Helper()
	text, code := impl.GateText(g)
	if code != impl.OK {
		t.Fatal("GateText", g, code)
	}
	return text
}

func (d *plainDesk) joins(g impl.Gate) (string, int) {
	c := circuitOf(append(slices.Clone(d.c.Gates), g)...)
	if !impl.CircuitOK(c) {
		return "", impl.ErrCircuit
	}
	d.c = c
	return textOf("gate", len(c.Gates)-1), impl.OK
}

func (d *plainDesk) proves() (string, int) {
	p, code := impl.ProveCircuit(d.c, d.set, d.publics, d.inputs, consoleSource)
	if code != impl.OK {
		return "", code
	}
	d.proof = plainProofBytes(p)
	size, code := impl.ProofSize(plainSystem(d.c), d.set)
	return textOf("proof", size), code
}

func (d *plainDesk) verifies() (string, int) {
	if !impl.CircuitOK(d.c) {
		return "", impl.ErrCircuit
	}
	_, code := impl.VerifyBytes(plainSystem(d.c), d.set, d.publics, d.proof, consoleSource)
	return "accepted", code
}

func (d *plainDesk) spoils(n int) (string, int) {
	if n >= len(d.proof) {
		return "", impl.ErrRange
	}
	d.proof = []byte(turned(string(d.proof), 8*n))
	return "ok", impl.OK
}

func (d *plainDesk) selects(bits, rate, grind int) (string, int) {
	set, code := impl.Select(bits, rate, grind)
	if code == impl.OK {
		d.set = set
	}
	return textOf("queries", set.Queries), code
}

func (d *plainDesk) does(line string) (string, int) {
	if g, code := impl.ReadGate(line); code == impl.OK {
		return d.joins(g)
	}
	words := plainWords(line)
	n, ok := plainNumbers(words[1:])
	switch {
	case ok && words[0] == "publics":
		d.publics = n
		return "ok", impl.OK
	case ok && words[0] == "inputs":
		d.inputs = n
		return "ok", impl.OK
	case ok && words[0] == "select" && len(n) == 3:
		return d.selects(n[0], n[1], n[2])
	case ok && words[0] == "spoil" && len(n) == 1:
		return d.spoils(n[0])
	case slices.Equal(words, []string{"run"}):
		values, code := impl.RunCircuit(d.c, d.publics, d.inputs)
		return textOf("values", values...), code
	case slices.Equal(words, []string{"prove"}):
		return d.proves()
	case slices.Equal(words, []string{"verify"}):
		return d.verifies()
	}
	return "", impl.ErrForm
}

// plainAnswers are what is said line by line, with its byte 10; nothing to a line that says nothing.
func plainAnswers(text string) []string {
	d := plainDesk{set: impl.Setting{Rate: 1, Queries: 1}}
	var answers []string
	for _, line := range plainLines(text) {
		words := plainWords(line)
		if len(words) == 0 || words[0][0] == '#' {
			answers = append(answers, "")
			continue
		}
		answer, code := d.does(line)
		if code != impl.OK {
			answer = "error " + impl.CodeWord(code)
		}
		answers = append(answers, answer+"\n")
	}
	return answers
}

func asksConsole(t *testing.T, text, want string) {
	t.Helper()
	if got, code := impl.Console(text); got != want || code != impl.OK {
		t.Fatalf("Console of %d bytes %.2000q\nsays %.2000q %d\nis to say %.2000q", len(text), text, got, code, want)
	}
}

// asksLikeCalls wants a console to say what the calls answer that its lines stand for.
func asksLikeCalls(t *testing.T, text string) []string {
	t.Helper()
	answers := plainAnswers(text)
	asksConsole(t, text, strings.Join(answers, ""))
	return answers
}

func asksNoConsole(t *testing.T, text string, want int) {
	t.Helper()
	if got, code := impl.Console(text); got != "" || code != want {
		t.Fatalf("Console of %d bytes %.200q says %.200q %d, is to have %d", len(text), text, got, code, want)
	}
}

// textOfLines has a byte 10 behind each.
func textOfLines(lines ...string) string {
	text := ""
	for _, line := range lines {
		text += line + "\n"
	}
	return text
}

// asksDialog has a line and what is said to it in turn.
func asksDialog(t *testing.T, turns ...string) {
	t.Helper()
	var lines, answers []string
	for i := 0; i < len(turns); i += 2 {
		lines, answers = append(lines, turns[i]), append(answers, turns[i+1])
	}
	asksConsole(t, textOfLines(lines...), textOfLines(answers...))
	asksLikeCalls(t, textOfLines(lines...))
}

// rootLines are a circuit that asks for a root of what is public.
var rootLines = []string{"input", "public", "mul 0 0", "equal 2 1"}

func TestConsoleByHand(t *testing.T) {
	asksDialog(t, "input", "gate 0", "inputs 5", "ok", "run", "values 5", "prove", "proof 228", "verify", "accepted", "select 0 1 0", "queries 1", "verify", "accepted", "spoil 0", "ok", "verify", "error claim", "spoil 0", "ok", "verify", "accepted")
	asksDialog(t, "const 2130706432", "gate 0", "run", "values 2130706432", "prove", "proof 228", "verify", "accepted")
	asksDialog(t, "public", "gate 0", "run", "error size", "prove", "error size", "verify", "error public", "publics 0", "ok", "run", "values 0", "verify", "error form", "prove", "proof 228", "verify", "accepted")
	asksDialog(t, "const 3", "gate 0", "const 4", "gate 1", "add 0 1", "gate 2", "sub 0 1", "gate 3", "mul 0 1", "gate 4", "input", "gate 5", "bit 5", "gate 6", "inputs 1", "ok", "run", "values 3 4 7 2130706432 12 1 1",
		"inputs 2", "ok", "run", "error unsatisfied", "prove", "error unsatisfied", "inputs", "ok", "run", "error size", "prove", "error size", "verify", "error form")
	asksDialog(t, "select 16 3 12", "queries 5", "input", "gate 0", "inputs 0", "ok", "prove", "proof 740", "verify", "accepted")
	asksDialog(t, "run", "error circuit", "prove", "error circuit", "verify", "error circuit", "spoil 0", "error range", "inputs 1", "ok", "publics 1", "ok", "run", "error circuit", "prove", "error circuit", "verify", "error circuit")
}

// All texts of so many lines of these, behind a beginning.
func eachTextOf(lines []string, n int, text string, does func(text string)) {
	if n == 0 {
		does(text)
		return
	}
	for _, line := range lines {
		eachTextOf(lines, n-1, text+line+"\n", does)
	}
}

func TestLinesInEveryOrder(t *testing.T) {
	said := map[string]int{}
	tells := func(text string) {
		for _, answer := range asksLikeCalls(t, text) {
			said[answer]++
		}
	}
	lines := []string{"publics 49", "publics 48", "inputs 7", "select 1 2 1", "select 9 1 0", "run", "prove", "verify", "spoil 39", "spoil 9999", "const 1", "add 9 0", "publics x"}
	eachTextOf(lines, 3, "", tells)
	eachTextOf(lines, 3, textOfLines(rootLines...), tells)
	eachTextOf(lines, 3, textOfLines(append(rootLines, "publics 49", "inputs 7", "prove")...), tells)
	eachTextOf([]string{"publics 49", "inputs 7", "run", "prove", "verify"}, 5, textOfLines(rootLines...), tells)
	for _, answer := range []string{"ok", "gate 0", "gate 4", "queries 1", "values 7 49 49 49", "proof 420", "proof 484", "accepted"} {
		if said[answer+"\n"] == 0 {
			t.Error("no line is answered by", answer)
		}
	}
	for _, code := range []int{impl.ErrForm, impl.ErrRange, impl.ErrSize, impl.ErrSum, impl.ErrUnsatisfied, impl.ErrSecure, impl.ErrPublic, impl.ErrCircuit} {
		if said["error "+impl.CodeWord(code)+"\n"] == 0 {
			t.Error("no line is answered by error", impl.CodeWord(code))
		}
	}
}

// linesOf are a circuit's gates' texts, the numbers for it, and all that may be asked of it in a setting.
func linesOf(t *testing.T, r run, bits, rate, grind int) []string {
	t.Helper()
	var lines []string
	for _, g := range r.c.Gates {
		lines = append(lines, gateText(t, g))
	}
	return append(lines, textOf("publics", r.publics...), textOf("inputs", r.inputs...), textOf("select", bits, rate, grind), "run", "prove", "verify")
}

// asksWholeDialog holds what is said to a circuit's lines against the calls by themselves.
func asksWholeDialog(t *testing.T, r run, bits, rate, grind int) {
	t.Helper()
	set, _ := plainSelected(bits, rate, grind)
	answers := asksLikeCalls(t, textOfLines(linesOf(t, r, bits, rate, grind)...))
	var want []string
	for i := range r.c.Gates {
		want = append(want, textOf("gate", i))
	}
	want = append(want, "ok", "ok", textOf("queries", set.Queries))
	if r.holds {
		want = append(want, textOf("values", r.values...), textOf("proof", plainProofSize(plainSystem(r.c), set)), "accepted")
	} else {
		want = append(want, "error unsatisfied", "error unsatisfied", "error form")
	}
	if got := strings.Join(answers, ""); got != textOfLines(want...) {
		t.Fatal(r, bits, rate, grind, "says", got, "is to say", want)
	}
}

func TestConsoleOfManyCircuits(t *testing.T) {
	d := draws(17)
	for i, c := range slices.Concat(allCircuits(1), allCircuits(2), mixedCircuits(), longestCircuits()) {
		bits, rate, grind := i%4, 1+i%3, i%3
		publics := drawnNumbers(plainCount(c, impl.GaPublic), &d)
		asksWholeDialog(t, runOf(c, publics, drawnNumbers(plainCount(c, impl.GaInput), &d)), bits, rate, grind)
		// Of ones alone most that must be is.
		ones := runOf(c, slices.Repeat([]int{1}, plainCount(c, impl.GaPublic)), slices.Repeat([]int{1}, plainCount(c, impl.GaInput)))
		asksWholeDialog(t, ones, bits, rate, grind)
	}
}

// In all that a setting may be asked for by: with the setting the proof's bytes are told and accepted.
func TestConsoleOfAllSettings(t *testing.T) {
	r := runOf(circuitOf(input, public, mulGate(0, 0), likeGate(2, 1)), []int{49}, []int{7})
	eachAskedFor(func(bits, rate, grind int) {
		if _, ok := plainSelected(bits, rate, grind); ok && grind <= 6 {
			asksWholeDialog(t, r, bits, rate, grind)
		} else {
			asksLikeCalls(t, textOfLines("input", textOf("select", bits, rate, grind), "select 1 1 0", textOf("select", bits, rate, grind)))
		}
	})
}

// padded has as many blanks ahead of each word and behind the last one as are drawn, and at least one between.
func padded(line string, d *draws) string {
	text := ""
	for i, word := range plainWords(line) {
		text += strings.Repeat(" ", min(i, 1)+d.next()%3*(d.next()%2)) + word
	}
	return text + strings.Repeat(" ", d.next()%3*(d.next()%2))
}

// otherLines are none that chapter 17 tells, or say nothing.
var otherLines = []string{"", " ", "#", "# run", "#prove", "go", "run now", "Run", "gate 0", "values 1", "select 1 2", "select 1 1 0 0", "spoil", "spoil 1 2", "publics x", "inputs 1 -1", "inputs 2130706433", "add 1", "bit 15", "const", "error form", "prove #", "verify 0"}

// mixedLine is drawn; most are such that a circuit of so many public numbers and inputs is proved by.
func mixedLine(t *testing.T, r run, d *draws) string {
	t.Helper()
	publics, inputs := len(r.publics), len(r.inputs)
	list := []string{
		"run", "prove", "prove", "verify", "verify", otherLines[d.next()%len(otherLines)],
		textOf("publics", r.publics...), textOf("inputs", r.inputs...), textOf("publics", r.publics...), textOf("inputs", r.inputs...),
		textOf("publics", drawnNumbers(publics, d)...), textOf("inputs", drawnNumbers(inputs, d)...),
		textOf("publics", drawnNumbers(d.next()%8, d)...), textOf("inputs", drawnNumbers(d.next()%16, d)...),
		textOf("select", d.next()%6, 1+d.next()%3, d.next()%3), textOf("select", d.next()%17, d.next()%5, d.next()%4),
		textOf("spoil", d.next()%228), textOf("spoil", d.next()%1500),
	}
	if d.next()%12 == 0 {
		gates := gatesAt(len(r.c.Gates) + 1)
		return gateText(t, gates[d.next()%len(gates)])
	}
	return list[d.next()%len(list)]
}

// mixedText begins with a circuit that can be proved.
func mixedText(t *testing.T, d *draws, n int) []string {
	t.Helper()
	r := run{}
	for !r.holds {
		c := mixedCircuit(1+d.next()%13, d)
		r = runOf(c, slices.Repeat([]int{1}, plainCount(c, impl.GaPublic)), slices.Repeat([]int{1}, plainCount(c, impl.GaInput)))
	}
	lines := linesOf(t, r, d.next()%4, 1+d.next()%3, d.next()%2)
	lines = lines[:len(lines)-1-d.next()%6]
	for len(lines) < n {
		lines = append(lines, mixedLine(t, r, d))
	}
	for i := range lines {
		lines[i] = padded(lines[i], d)
	}
	return lines[:n]
}

func TestMixedTexts(t *testing.T) {
	d := draws(1717)
	said := map[string]int{}
	for i := range 700 {
		for _, answer := range asksLikeCalls(t, textOfLines(mixedText(t, &d, 1+i%40)...)) {
			said[strings.Trim(answer, " 0123456789\n")]++
		}
	}
	for _, word := range []string{"gate", "ok", "queries", "values", "proof", "accepted", "error form", "error circuit", "error size", "error range", "error secure", "error unsatisfied", "error public", "error sum", "error claim", "error path"} {
		if said[word] == 0 {
			t.Error("no line is answered by", word, said)
		}
	}
}

// The promise itself: to each beginning of a text what is said to it alone, and behind it whatever other lines there are.
func TestWhatIsSaidToTheFirstLines(t *testing.T) {
	d := draws(171)
	for range 25 {
		lines, others := mixedText(t, &d, 40), mixedText(t, &d, 40)
		answers := asksLikeCalls(t, textOfLines(lines...))
		for n := range lines {
			first, said := textOfLines(lines[:n]...), strings.Join(answers[:n], "")
			asksConsole(t, first, said)
			got, code := impl.Console(first + textOfLines(others[n:]...))
			if !strings.HasPrefix(got, said) || code != impl.OK {
				t.Fatalf("Console of %q and other lines says %q %d, is to begin with %q", first, got, code, said)
			}
		}
	}
}

// Of one line more than a console takes nothing is said to the first ones.
func TestWhatIsSaidToTooManyLines(t *testing.T) {
	d := draws(1771)
	for range 20 {
		lines := mixedText(t, &d, 40)
		asksLikeCalls(t, textOfLines(lines...))
		for _, line := range []string{"", " ", "# one more", "run"} {
			asksNoConsole(t, textOfLines(append(lines, line)...), impl.ErrMany)
		}
	}
}

func TestLinesThatSayNothing(t *testing.T) {
	d := draws(1707)
	silent := []string{"", " ", strings.Repeat(" ", 500), "#", "##", "# run", "#prove", "   #   input", "#\t", "#\xff", "#\x00 run"}
	for range 10 {
		lines := mixedText(t, &d, 24)
		want := strings.Join(asksLikeCalls(t, textOfLines(lines...)), "")
		for i := range len(lines) + 1 {
			for n, line := range silent {
				more := slices.Insert(slices.Clone(lines), i, slices.Repeat([]string{line}, 1+n)...)
				asksConsole(t, textOfLines(more...), want)
			}
		}
	}
}

// Each byte of a proof is spoiled, and spoiled again.
func TestSpoiledProofs(t *testing.T) {
	for _, lines := range [][]string{{"input", "inputs 5"}, append(slices.Clone(rootLines), "select 2 2 1", "publics 49", "inputs 7")} {
		ahead := plainAnswers(textOfLines(append(lines, "prove")...))
		_, told, _ := strings.Cut(strings.TrimSpace(ahead[len(ahead)-1]), " ")
		size, err := strconv.Atoi(told)
		if err != nil || size < 228 {
			t.Fatal(ahead, err)
		}
		for i := range size {
			spoil := textOf("spoil", i)
			answers := asksLikeCalls(t, textOfLines(append(lines, "prove", spoil, "verify", spoil, "verify")...))
			if last := answers[len(answers)-1]; last != "accepted\n" {
				t.Fatal("byte", i, "spoiled twice", last)
			}
		}
		for _, n := range []int{size, size + 1, 65536, prime - 1} {
			answers := asksLikeCalls(t, textOfLines(append(lines, "prove", textOf("spoil", n), "verify")...))
			if got := answers[len(answers)-2:]; !slices.Equal(got, []string{"error range\n", "accepted\n"}) {
				t.Error("byte", n, "of", size, "is spoiled", got)
			}
		}
	}
}

// A proof is held against the circuit, the public numbers and the setting of the moment, and stays as it is.
func TestProofsAreHeldAgainstWhatCameLater(t *testing.T) {
	ahead := []string{"input", "public", "mul 0 0", "equal 2 1", "publics 49", "inputs 7", "select 2 2 1", "prove", "verify"}
	said := []string{"gate 0", "gate 1", "gate 2", "gate 3", "ok", "ok", "queries 2", "proof 676", "accepted"}
	for _, turns := range [][]string{
		{"publics 48", "ok", "verify", "error sum", "publics 49", "ok", "verify", "accepted"},
		{"publics", "ok", "verify", "error public", "publics 49 49", "ok", "verify", "error public", "publics 49", "ok", "verify", "accepted"},
		{"inputs 8", "ok", "verify", "accepted", "run", "error unsatisfied", "prove", "error unsatisfied", "verify", "accepted", "inputs", "ok", "prove", "error size", "verify", "accepted"},
		{"select 1 2 0", "queries 2", "verify", "error sum", "select 0 2 1", "queries 1", "verify", "error form", "select 3 1 1", "queries 5", "verify", "error form", "select 2 2 1", "queries 2", "verify", "accepted"},
		{"select 9 1 0", "error secure", "select 1 4 0", "error range", "verify", "accepted"},
		{"add 0 9", "error circuit", "verify", "accepted"},
		{"publics x", "error form", "inputs 1 -1", "error form", "verify", "accepted", "run", "values 7 49 49 49"},
		{"spoil 9999", "error range", "verify", "accepted"},
		{"spoil 39", "ok", "verify", "error sum", "publics 48", "ok", "prove", "error unsatisfied", "verify", "error sum", "publics 49", "ok", "verify", "error sum", "prove", "proof 676", "verify", "accepted"},
		{"public", "gate 4", "verify", "error public", "publics 49 5", "ok", "verify", "error sum", "run", "values 7 49 49 49 5", "prove", "proof 676", "verify", "accepted", "publics 49 6", "ok", "verify", "error sum"},
		{"const 5", "gate 4", "verify", "error sum", "const 6", "gate 5", "verify", "error form", "prove", "proof 1076", "verify", "accepted", "spoil 1075", "ok", "verify", "error path"},
	} {
		all := turns
		for i := len(ahead) - 1; i >= 0; i-- {
			all = append([]string{ahead[i], said[i]}, all...)
		}
		asksDialog(t, all...)
	}
}
