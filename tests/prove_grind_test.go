package tests

import (
	"fmt"
	"testing"

	"loop.example/g00348/impl"
)

// Promise 13, of proofs for which the last nonce alone does, or none: nobody has one of these, so a copy of the program is asked.

func TestProofsOfAStingyHash(t *testing.T) {
	if isStingy() {
		t.Skip("this is the copy")
	}
	asksACopy(t, stingyHash, "TestProofsOfTheLastNonceAndOfNone")
}

// provedBehind is the same with a source for which the nonce is looked for in a state that begins with a byte 1, or one where it does not.
func provedBehind(t *testing.T, a proveAsked, one bool) proveAsked {
	t.Helper()
	for i := 0; ; i++ {
		a.source.State = hashed(fmt.Sprint(i))
		w := toldAheadOfOpening(t, a)
		if (shownDown(t, w.private, w.point, a.set.Rate, w.source, honest).end.State[0] == 1) == one {
			return a
		}
	}
}

// TestProofsOfTheLastNonceAndOfNone is for the copy with the stingy hash.
func TestProofsOfTheLastNonceAndOfNone(t *testing.T) {
	if !isStingy() {
		t.Skip("the hash is the true one")
	}
	for _, script := range [][]impl.Ext{nil, mixedExts(7)} {
		for _, grind := range []int{1, 12} {
			a := fullAsked(1, 2, impl.Setting{Rate: 1, Queries: 2, Grind: grind}, impl.Source{Script: script})
			last, none := provedBehind(t, a, true), provedBehind(t, a, false)
			p := proved(t, last)
			if p.Open.Nonce != 65535 || !sameProof(p, plainProof(t, last)) {
				t.Error(grind, "bits of the last nonce", p.Open.Nonce)
			}
			shownProof{last, p}.asks(t, accepted)
			for _, nonce := range []int{0, 1, 65534} {
				p.Open.Nonce = nonce
				shownProof{last, p}.asks(t, refusal{"opening", impl.ErrGrind}, "nonce", nonce)
			}
			none.asksCode(t, impl.ErrGrind, "no nonce")
			started(t, none)
			asksAheadOfNoNonce(t, none)
			none.set.Grind = 0
			proved(t, none)
		}
		asksNoNonceOfACircuit(t, script)
	}
}

// All else that is wrong is told ahead of a nonce that there is none of.
func asksAheadOfNoNonce(t *testing.T, none proveAsked) {
	t.Helper()
	b := none
	b.privates = append([]int{add(b.privates[0], 1)}, b.privates[1:]...)
	b.asksCode(t, impl.ErrUnsatisfied, "and no nonce")
	b = none
	b.privates = make([]int, 3)
	b.asksCode(t, impl.ErrSize, "and no nonce")
	b = none
	b.source.At = allDraws - 199
	b.asksCode(t, impl.ErrMany, "and no nonce")
}

func asksNoNonceOfACircuit(t *testing.T, script []impl.Ext) {
	t.Helper()
	r := runOf(circuitOf(input, public, mulGate(0, 0), likeGate(2, 1)), []int{49}, []int{7})
	publics, privates := plainWitness(r.c, r.values)
	a := proveAsked{plainSystem(r.c), impl.Setting{Rate: 1, Queries: 2, Grind: 5}, publics, privates, impl.Source{Script: script}}
	none := circuitProofAsked{r.c, a.set, r.publics, r.inputs, provedBehind(t, a, false).source}
	none.asksCode(t, impl.ErrGrind, "no nonce")
	none.inputs = []int{8}
	none.asksCode(t, impl.ErrUnsatisfied, "and no nonce")
	asksCircuit(t, r, a.set, provedBehind(t, a, true).source)
}
