package tests

import (
	"fmt"
	"math"
	"slices"
	"testing"

	"loop.example/g00348/impl"
)

// Promise 1, of proofs.

// allProofAsked is what the calls of chapter 13 are handed.
type allProofAsked struct {
	proveAsked
	rx     []impl.Ext
	r      [3]impl.Ext
	c      impl.Circuit
	inputs []int
}

func proofAnswers(a allProofAsked) string {
	return told(impl.Start(a.s, a.set, a.publics, a.source)) + told(impl.BoundTable(a.s, a.rx, a.r[0], a.r[1], a.r[2])) +
		told(impl.Prove(a.s, a.set, a.publics, a.privates, a.source)) + told(impl.ProveCircuit(a.c, a.set, a.publics, a.inputs, a.source))
}

// rightProofAsked has a circuit that takes as many public numbers as the system.
func rightProofAsked(s impl.Source) allProofAsked {
	b := rightBoundAsked()
	return allProofAsked{rightProveAsked(s), b.rx, b.r, circuitOf(public, input, public, sumGate(0, 1), public, likeGate(1, 1)), []int{7}}
}

// proofChanges do something wrong, or nothing, or change what is right.
func proofChanges() []func(a *allProofAsked) {
	list := []func(a *allProofAsked){func(*allProofAsked) {}, func(a *allProofAsked) { *a = allProofAsked{} }}
	for _, f := range proveFaults() {
		list = append(list, func(a *allProofAsked) { f.does(&a.proveAsked) })
	}
	for _, n := range []int{0, 1, 2, 3, 5, 7, 64, impl.MaxList, longList} {
		list = append(list,
			func(a *allProofAsked) { a.rx = mixedExts(n) },
			func(a *allProofAsked) { a.inputs = numbersOf(n, 0) },
			func(a *allProofAsked) { a.privates = numbersOf(n, 0) },
			func(a *allProofAsked) { a.publics = numbersOf(n, 0) },
			func(a *allProofAsked) { a.source.Script = mixedExts(n) },
		)
	}
	for _, n := range []int{0, 1, 5, 6, 63, 64, -1, math.MaxInt, math.MinInt} {
		list = append(list,
			func(a *allProofAsked) { a.s.Rows = n },
			func(a *allProofAsked) { a.s.Cols = n },
			func(a *allProofAsked) { a.s.Publics = n },
			func(a *allProofAsked) { a.set = impl.Setting{Rate: n, Queries: n, Grind: n} },
			func(a *allProofAsked) { a.set.Rate = n },
			func(a *allProofAsked) { a.set.Queries = n },
			func(a *allProofAsked) { a.source.At = n },
			func(a *allProofAsked) { a.source.Count = n },
			func(a *allProofAsked) { a.publics, a.privates, a.inputs = []int{n, n, n}, []int{n}, []int{n} },
			func(a *allProofAsked) { a.r[1] = impl.Ext{A: n} },
			func(a *allProofAsked) { a.rx = []impl.Ext{{B: n}, {A: n}} },
		)
	}
	for _, c := range slices.Concat(noCircuits()[:12], longestCircuits(), allCircuits(1)) {
		list = append(list, func(a *allProofAsked) {
			a.c, a.publics, a.inputs = c, make([]int, plainCount(c, impl.GaPublic)), make([]int, plainCount(c, impl.GaInput))
		})
	}
	for rows := 1; rows <= 5; rows++ {
		list = append(list, func(a *allProofAsked) { a.proveAsked = fullAsked(rows, 2+rows%4, a.set, a.source) })
	}
	return list
}

func proofCalls() []call {
	var calls []call
	for j, s := range cheatSources() {
		for i, does := range proofChanges() {
			a := rightProofAsked(s)
			does(&a)
			calls = append(calls, call{fmt.Sprint("proofs ", i, " source ", j), func() string { return proofAnswers(a) }})
		}
	}
	return calls
}

// roomyProofAsked has more behind the end of each list; what is answered is all that they have.
func roomyProofAsked(a allProofAsked) (allProofAsked, func() string) {
	mark := impl.Entry{Row: 1, Col: 2, Value: 3}
	var entries [3][]impl.Entry
	var numbers [3][]int
	var exts [2][]impl.Ext
	var gates []impl.Gate
	a.s.A, entries[0] = roomy(a.s.A, mark)
	a.s.B, entries[1] = roomy(a.s.B, mark)
	a.s.C, entries[2] = roomy(a.s.C, mark)
	a.publics, numbers[0] = roomy(a.publics, 11)
	a.privates, numbers[1] = roomy(a.privates, 11)
	a.inputs, numbers[2] = roomy(a.inputs, 11)
	a.rx, exts[0] = roomy(a.rx, extX)
	a.source.Script, exts[1] = roomy(a.source.Script, extX)
	a.c.Gates, gates = roomy(a.c.Gates, bitGate(0))
	return a, func() string { return told(entries, numbers, exts, gates) }
}

func TestProofsChangeNoArgument(t *testing.T) {
	for _, s := range cheatSources() {
		for i, does := range proofChanges() {
			a := rightProofAsked(s)
			does(&a)
			given, all := roomyProofAsked(a)
			kept, want := all(), proofAnswers(a)
			got := proofAnswers(given)
			if all() != kept {
				t.Error("case", i, "is changed, or what lies behind the ends of its lists")
			}
			if got != want {
				t.Error("case", i, "hangs on what lies behind the ends of its lists")
			}
		}
	}
}

// listsOfProof are all lists of elements, and all lists of texts, of a proof.
func listsOfProof(p impl.Proof) ([][]impl.Ext, [][]string) {
	elements, texts := listsIn(p.Open)
	return slices.Concat(p.Gates, p.Wires, elements), texts
}

func TestProofsAreNewMemory(t *testing.T) {
	for j, s := range proofSources() {
		a := rightProofAsked(s)
		one, two := proved(t, a.proveAsked), proved(t, a.proveAsked)
		three, code := impl.ProveCircuit(a.c, a.set, a.publics, a.inputs, a.source)
		four, again := impl.ProveCircuit(a.c, a.set, a.publics, a.inputs, a.source)
		if code != impl.OK || again != impl.OK {
			t.Fatal("ProveCircuit", code, again)
		}
		elements, texts := [][]impl.Ext{a.rx, a.source.Script, started(t, a.proveAsked).Script, started(t, a.proveAsked).Script}, [][]string{}
		for range 2 {
			elements = append(elements, boundTable(t, a.s, a.rx, a.r[0], a.r[1], a.r[2]))
		}
		for _, p := range []impl.Proof{one, two, three, four} {
			e, x := listsOfProof(p)
			elements, texts = append(elements, e...), append(texts, x...)
		}
		asksApart(t, elements, texts, "source", j)
	}
}

// The outer lists of a proof are new as well.
func TestPartsOfProofsAreNewLists(t *testing.T) {
	a := rightProveAsked(impl.Source{State: hashed("proofs"), Script: []impl.Ext{extX}})
	one, two := proved(t, a), proved(t, a)
	want := plainProof(t, a)
	for _, list := range [][][]impl.Ext{one.Gates, one.Wires, one.Open.Rounds} {
		list = list[:cap(list)]
		for i := range list {
			list[i] = nil
		}
	}
	fillWith(one.Open.Queries, impl.Query{})
	if !sameProof(two, want) {
		t.Error("two proofs share a list")
	}
	three := proved(t, a)
	fillWith(three.Gates, nil)
	if !sameLists(three.Wires, want.Wires) || !sameOpening(three.Open, want.Open) {
		t.Error("the gates share a list with other parts")
	}
	fillWith(three.Wires, nil)
	if !sameOpening(three.Open, want.Open) {
		t.Error("the wires share a list with the opening")
	}
}

// What is handed in may be written into behind a call; the answers stay.
func TestProofsKeepNothingOfTheirArguments(t *testing.T) {
	a := rightProofAsked(impl.Source{State: hashed("proofs"), Script: mixedExts(5)})
	after, table, proof := started(t, a.proveAsked), boundTable(t, a.s, a.rx, a.r[0], a.r[1], a.r[2]), proved(t, a.proveAsked)
	want := told(after, table, proof)
	fillWith(a.source.Script, ext0)
	fillWith(a.rx, ext0)
	fillWith(a.publics, 0)
	fillWith(a.privates, 0)
	for _, list := range [][]impl.Entry{a.s.A, a.s.B, a.s.C} {
		fillWith(list, impl.Entry{})
	}
	if told(after, table, proof) != want {
		t.Error("an answer has changed")
	}
}

func TestNoListsAreNil(t *testing.T) {
	nothing := func(a *allProofAsked) {
		a.s.A, a.s.B, a.s.C, a.publics, a.privates, a.inputs, a.rx, a.source.Script, a.c.Gates = nil, nil, nil, nil, nil, nil, nil, nil, nil
	}
	empty := func(a *allProofAsked) {
		a.s.A, a.s.B, a.s.C = []impl.Entry{}, []impl.Entry{}, []impl.Entry{}
		a.publics, a.privates, a.inputs, a.rx, a.source.Script, a.c.Gates = []int{}, []int{}, []int{}, []impl.Ext{}, []impl.Ext{}, []impl.Gate{}
	}
	for _, publics := range []int{0, 3} {
		for _, gates := range [][]impl.Gate{nil, {constant(5)}, {input}, {public}} {
			a, b := rightProofAsked(impl.Source{State: hashed("proofs")}), rightProofAsked(impl.Source{State: hashed("proofs")})
			nothing(&a)
			empty(&b)
			a.s.Publics, b.s.Publics = publics, publics
			if gates != nil {
				a.c.Gates, b.c.Gates = gates, gates
			}
			if one, two := proofAnswers(a), proofAnswers(b); one != two {
				t.Error(publics, gates, one, two)
			}
		}
	}
}
