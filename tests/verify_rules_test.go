package tests

import (
	"fmt"
	"math"
	"slices"
	"strings"
	"testing"

	"loop.example/g00348/impl"
)

// Promise 1, of proofs that are verified.

// allShown is what the calls of chapter 14 are handed.
type allShown struct {
	shownProof
	point []impl.Ext
	c     impl.Circuit
}

func shownAnswers(a allShown) string {
	return told(impl.ProofOK(a.p, a.s, a.set)) + told(impl.PublicAt(a.s, a.publics, a.point)) +
		told(impl.Verify(a.s, a.set, a.publics, a.p, a.source)) + told(impl.VerifyCircuit(a.c, a.set, a.publics, a.p, a.source))
}

// rightShown is of a circuit's system, so that its proof is right for both.
func rightShown(t *testing.T, s impl.Source) allShown {
	t.Helper()
	r := runOf(circuitOf(public, input, mulGate(1, 1), public, sumGate(2, 3), likeGate(4, 4)), []int{5, 6}, []int{7})
	publics, privates := plainWitness(r.c, r.values)
	a := proveAsked{plainSystem(r.c), rightSetting, publics, privates, s}
	return allShown{shownOf(t, a), mixedExts(a.s.Cols - 1), r.c}
}

// shownChanges do something wrong, or nothing, or change what is right.
func shownChanges(t *testing.T) []func(a *allShown) {
	list := []func(a *allShown){func(*allShown) {}, func(a *allShown) { *a = allShown{} }, func(a *allShown) { a.p = impl.Proof{} }}
	for _, f := range slices.Concat(faultsOfStart(rightProveAsked(cheatSources()[0])), lengthFaults(), refusalFaults(t)) {
		list = append(list, func(a *allShown) { f.does(&a.shownProof) })
	}
	for _, n := range []int{0, 1, 2, 3, 5, 7, 64, impl.MaxList, longList} {
		list = append(list,
			func(a *allShown) { a.point = mixedExts(n) },
			func(a *allShown) { a.publics = numbersOf(n, 0) },
			func(a *allShown) { a.source.Script = mixedExts(n) },
			func(a *allShown) { a.p.Gates = make([][]impl.Ext, n) },
			func(a *allShown) { a.p.Wires = make([][]impl.Ext, n) },
			func(a *allShown) { a.p.Root = strings.Repeat("r", n) },
			func(a *allShown) { a.p.Open.Queries = make([]impl.Query, n) },
		)
	}
	for _, n := range []int{0, 1, 5, 6, 63, 64, -1, math.MaxInt, math.MinInt} {
		list = append(list,
			func(a *allShown) { a.s.Rows = n },
			func(a *allShown) { a.s.Cols = n },
			func(a *allShown) { a.s.Publics = n },
			func(a *allShown) { a.set = impl.Setting{Rate: n, Queries: n, Grind: n} },
			func(a *allShown) { a.source.At, a.source.Count = n, n },
			func(a *allShown) { a.publics = []int{n, n} },
			func(a *allShown) { a.point = []impl.Ext{{A: n}, {B: n}} },
			func(a *allShown) { a.p.VW = impl.Ext{A: n} },
			func(a *allShown) { a.p.Gates[0][2] = impl.Ext{B: n} },
			func(a *allShown) { a.p.Open.Nonce = n },
		)
	}
	for _, c := range slices.Concat(noCircuits()[:12], longestCircuits(), allCircuits(1)) {
		list = append(list, func(a *allShown) { a.c, a.publics = c, make([]int, plainCount(c, impl.GaPublic)) })
	}
	for rows := 1; rows <= 5; rows++ {
		list = append(list, func(a *allShown) { a.shownProof = shownOf(t, fullAsked(rows, 2+rows%4, rightSetting, a.source)) })
	}
	return list
}

func changedShown(t *testing.T, s impl.Source, does func(a *allShown)) allShown {
	t.Helper()
	a := rightShown(t, s)
	does(&a)
	return a
}

func shownCalls(t *testing.T) []call {
	t.Helper()
	var calls []call
	for j, s := range cheatSources() {
		for i, does := range shownChanges(t) {
			a := changedShown(t, s, does)
			calls = append(calls, call{fmt.Sprint("verified ", i, " source ", j), func() string { return shownAnswers(a) }})
		}
	}
	return calls
}

// roomyRounds have more behind the end of each list.
func roomyRounds(rounds [][]impl.Ext) [][]impl.Ext {
	rounds = slices.Clone(rounds)
	for i := range rounds {
		rounds[i], _ = roomy(rounds[i], extX)
	}
	rounds, _ = roomy(rounds, []impl.Ext{extX})
	return rounds
}

func allRounds(rounds [][]impl.Ext) string {
	var text strings.Builder
	for _, round := range rounds[:cap(rounds)] {
		text.WriteString(told(round[:cap(round)]))
	}
	return text.String()
}

// roomyShown has more behind the end of each list; what is answered is all that they have.
func roomyShown(a allShown) (allShown, func() string) {
	given, others := roomyProofAsked(allProofAsked{proveAsked: a.proveAsked, rx: a.point, c: a.c})
	a.proveAsked, a.point, a.c = given.proveAsked, given.rx, given.c
	a.p.Gates, a.p.Wires, a.p.Open = roomyRounds(a.p.Gates), roomyRounds(a.p.Wires), roomyOpening(a.p.Open)
	return a, func() string {
		return others() + told(a.p.Root, a.p.VA, a.p.VB, a.p.VC, a.p.VW) + allRounds(a.p.Gates) + allRounds(a.p.Wires) + allIn(a.p.Open)
	}
}

func TestVerifyChangesNoArgument(t *testing.T) {
	for _, s := range cheatSources() {
		for i, does := range shownChanges(t) {
			a := changedShown(t, s, does)
			given, all := roomyShown(a)
			kept, want := all(), shownAnswers(a)
			got := shownAnswers(given)
			if all() != kept {
				t.Error("case", i, "is changed, or what lies behind the ends of its lists")
			}
			if got != want {
				t.Error("case", i, "hangs on what lies behind the ends of its lists")
			}
		}
	}
}

// Nothing is kept of a proof that was refused, nor of one that was accepted.
func TestVerifyKeepsNothing(t *testing.T) {
	for _, s := range cheatSources() {
		a := rightShown(t, s)
		other := a.changed(func(p *impl.Proof) { p.VW = extAdd(p.VW, ext1) })
		for range 3 {
			a.asks(t, accepted)
			other.asks(t, refusal{"wires", impl.ErrClaim})
		}
	}
}

func TestNoListsOfProofsAreNil(t *testing.T) {
	set, s := impl.Setting{Rate: 1, Queries: 1}, impl.Source{State: hashed("proofs")}
	a := allShown{shownOf(t, proveAsked{s: impl.System{Rows: 1, Cols: 2}, set: set, source: s}), mixedExts(1), circuitOf(constant(5))}
	b := a
	a.publics, a.s.A, a.s.B, a.s.C, a.source.Script, a.p.Open.Roots = nil, nil, nil, nil, nil, nil
	b.publics, b.s.A, b.s.B, b.s.C = []int{}, []impl.Entry{}, []impl.Entry{}, []impl.Entry{}
	b.source.Script, b.p.Open.Roots = []impl.Ext{}, []string{}
	a.asks(t, accepted, "nil")
	b.asks(t, accepted, "empty")
	if one, two := shownAnswers(a), shownAnswers(b); one != two {
		t.Error(one, two)
	}
	a.p, b.p = impl.Proof{}, impl.Proof{Gates: [][]impl.Ext{}, Wires: [][]impl.Ext{}}
	a.point, b.point, a.c.Gates, b.c.Gates = nil, []impl.Ext{}, nil, []impl.Gate{}
	if one, two := shownAnswers(a), shownAnswers(b); one != two {
		t.Error("nothing", one, two)
	}
}
