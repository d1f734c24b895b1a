package tests

import (
	"slices"
	"testing"

	"loop.example/g00348/impl"
)

// Promises 17 and 18, of lines for which no nonce is found, or the last one alone: a copy of the program is asked.

func TestConsoleOfAStingyHash(t *testing.T) {
	if isStingy() {
		t.Skip("this is the copy")
	}
	asksACopy(t, stingyHash, "TestConsoleOfTheLastNonceAndOfNone")
}

// rootBehind is a number, with its square, for which the console looks for a nonce in a state that begins with a byte 1, or one for which it does not.
func rootBehind(t *testing.T, set impl.Setting, one bool) (int, int) {
	t.Helper()
	for n := 0; ; n++ {
		r := runOf(circuitOf(input, public, mulGate(0, 0), likeGate(2, 1)), []int{mul(n, n)}, []int{n})
		publics, privates := plainWitness(r.c, r.values)
		w := toldAheadOfOpening(t, proveAsked{plainSystem(r.c), set, publics, privates, consoleSource})
		if (shownDown(t, w.private, w.point, set.Rate, w.source, honest).end.State[0] == 1) == one {
			return n, mul(n, n)
		}
	}
}

// TestConsoleOfTheLastNonceAndOfNone is for the copy with the stingy hash. What holds is proved, unless there is no nonce; a proof of before stays then.
func TestConsoleOfTheLastNonceAndOfNone(t *testing.T) {
	if !isStingy() {
		t.Skip("the hash is the true one")
	}
	set := impl.Setting{Rate: 1, Queries: 1, Grind: 1}
	for _, one := range []bool{true, false} {
		n, square := rootBehind(t, set, one)
		root, squared := textOf("inputs", n), textOf("publics", square)
		first := slices.Concat(rootLines, []string{root, squared, "prove", "verify", "select 1 1 1", "prove"})
		said := []string{"gate 0", "gate 1", "gate 2", "gate 3", "ok", "ok", "proof 420", "accepted", "queries 1"}
		if one {
			said = append(said, "proof 420", "accepted", "queries 3", "error form")
		} else {
			said = append(said, "error grind", "error sum", "queries 3", "error form")
		}
		lines := append(first, "verify", "select 1 1 0", "verify")
		asksConsole(t, textOfLines(lines...), textOfLines(said...))
		asksLikeCalls(t, textOfLines(lines...))
		// What is not is told ahead of a nonce that there is none of.
		answers := asksLikeCalls(t, textOfLines(append(first, textOf("publics", add(square, 1)), "prove")...))
		if last := answers[len(answers)-1]; last != "error unsatisfied\n" {
			t.Error(n, answers)
		}
	}
}
