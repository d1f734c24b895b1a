package tests

import (
	"fmt"
	"math"
	"slices"
	"testing"

	"loop.example/g00348/impl"
)

// Promise 1, of proofs' bytes.

// allTold is what the calls of chapter 15 are handed.
type allTold struct {
	shownProof
	b []byte
}

func codecAnswers(a allTold) string {
	return told(impl.ProofBytes(a.p, a.s, a.set)) + told(impl.ReadProof(a.b, a.s, a.set)) + told(impl.ProofSize(a.s, a.set)) +
		told(impl.VerifyBytes(a.s, a.set, a.publics, a.b, a.source))
}

func rightTold(t *testing.T, s impl.Source) allTold {
	t.Helper()
	a := shownOf(t, rightProveAsked(s))
	return allTold{a, plainProofBytes(a.p)}
}

// toldChanges do something wrong, or nothing, or change what is right.
func toldChanges(t *testing.T) []func(a *allTold) {
	list := []func(a *allTold){func(*allTold) {}, func(a *allTold) { *a = allTold{} }, func(a *allTold) { a.p = impl.Proof{} }}
	for _, f := range slices.Concat(faultsOfStart(rightProveAsked(cheatSources()[0])), lengthFaults(), refusalFaults(t)) {
		list = append(list,
			func(a *allTold) { f.does(&a.shownProof) },
			func(a *allTold) { f.does(&a.shownProof); a.b = plainProofBytes(a.p) },
		)
	}
	for _, b := range append(byteLists(), plainBytes(madeUp(2, rightSetting))) {
		list = append(list, func(a *allTold) { a.b = b }, func(a *allTold) { a.b = append(slices.Clone(a.b), b...) })
	}
	for _, n := range []int{0, 1, 3, 4, 64, impl.MaxList, longList} {
		list = append(list,
			func(a *allTold) { a.publics = numbersOf(n, 0) },
			func(a *allTold) { a.source.Script = mixedExts(n) },
			func(a *allTold) { a.p.Gates = make([][]impl.Ext, n) },
			func(a *allTold) { a.p.Open.Queries = make([]impl.Query, n) },
			func(a *allTold) { a.b = a.b[:min(n, len(a.b))] },
		)
	}
	for _, n := range []int{0, 1, 5, 6, 63, 64, -1, math.MaxInt, math.MinInt} {
		list = append(list,
			func(a *allTold) { a.s.Rows = n },
			func(a *allTold) { a.s.Cols = n },
			func(a *allTold) { a.s.Publics = n },
			func(a *allTold) { a.set.Rate = n },
			func(a *allTold) { a.set.Queries = n },
			func(a *allTold) { a.set.Grind = n },
			func(a *allTold) { a.set = impl.Setting{Rate: n, Queries: n, Grind: n} },
			func(a *allTold) { a.source.At, a.source.Count = n, n },
			func(a *allTold) { a.p.VB = impl.Ext{A: n} },
			func(a *allTold) { a.p.Open.Nonce = n },
		)
	}
	return list
}

func changedTold(t *testing.T, s impl.Source, does func(a *allTold)) allTold {
	t.Helper()
	a := rightTold(t, s)
	does(&a)
	return a
}

func codecCalls(t *testing.T) []call {
	t.Helper()
	var calls []call
	for j, s := range cheatSources() {
		for i, does := range toldChanges(t) {
			a := changedTold(t, s, does)
			calls = append(calls, call{fmt.Sprint("bytes of proofs ", i, " source ", j), func() string { return codecAnswers(a) }})
		}
	}
	return calls
}

// roomyTold has more behind the end of each list; what is answered is all that they have.
func roomyTold(a allTold) (allTold, func() string) {
	given, others := roomyShown(allShown{shownProof: a.shownProof})
	b, bytes := roomy(a.b, 11)
	return allTold{given.shownProof, b}, func() string { return others() + told(bytes) }
}

func TestBytesOfProofsChangeNoArgument(t *testing.T) {
	for _, s := range cheatSources() {
		for i, does := range toldChanges(t) {
			a := changedTold(t, s, does)
			given, all := roomyTold(a)
			kept, want := all(), codecAnswers(a)
			got := codecAnswers(given)
			if all() != kept {
				t.Error("case", i, "is changed, or what lies behind the ends of its lists")
			}
			if got != want {
				t.Error("case", i, "hangs on what lies behind the ends of its lists")
			}
		}
	}
}

// readFrom is the proof that bytes are those of.
func readFrom(t *testing.T, b []byte, a proveAsked) impl.Proof {
	t.Helper()
	p, code := impl.ReadProof(b, a.s, a.set)
	if code != impl.OK {
		t.Fatal("ReadProof", len(b), a.s.Rows, a.s.Cols, a.set, code)
	}
	return p
}

// A script of one place asks for the same leaf over and over.
func TestProofsThatAreReadAreNewMemory(t *testing.T) {
	for _, size := range [][2]int{{1, 2}, {2, 3}, {5, 5}} {
		for j, s := range proofSources() {
			a := fullAsked(size[0], size[1], impl.Setting{Rate: 1, Queries: 4, Grind: 1}, s)
			p := proved(t, a)
			b := plainProofBytes(p)
			elements, texts := listsOfProof(p)
			for range 2 {
				e, x := listsOfProof(readFrom(t, b, a))
				elements, texts = append(elements, e...), append(texts, x...)
			}
			asksApart(t, elements, texts, size, "source", j)
		}
	}
}

// The outer lists of a proof that is read are new as well.
func TestPartsThatAreReadAreNewLists(t *testing.T) {
	a := rightProveAsked(impl.Source{State: hashed("proofs"), Script: []impl.Ext{extX}})
	want := proved(t, a)
	b := plainProofBytes(want)
	one, two := readFrom(t, b, a), readFrom(t, b, a)
	for i := range one.Open.Queries {
		fillWith(one.Open.Queries[i].Paths, nil)
		for _, q := range one.Open.Queries[i+1:] {
			if slices.ContainsFunc(q.Paths, func(path []string) bool { return path == nil }) {
				t.Error("two queries share their paths")
			}
		}
	}
	for _, list := range [][][]impl.Ext{one.Gates, one.Wires, one.Open.Rounds} {
		fillWith(list[:cap(list)], nil)
	}
	fillWith(one.Open.Queries, impl.Query{})
	if !sameProof(two, want) {
		t.Error("two proofs share a list")
	}
	fillWith(two.Gates, nil)
	if !sameLists(two.Wires, want.Wires) || !sameOpening(two.Open, want.Open) {
		t.Error("the gates share a list with other parts")
	}
	fillWith(two.Wires, nil)
	if !sameOpening(two.Open, want.Open) {
		t.Error("the wires share a list with the opening")
	}
}

// What is handed in may be written into behind a call; the answers stay.
func TestBytesOfProofsAreNewMemory(t *testing.T) {
	for _, s := range cheatSources() {
		a := rightTold(t, s)
		want := copiedProof(a.p)
		one, _ := impl.ProofBytes(a.p, a.s, a.set)
		two, _ := impl.ProofBytes(a.p, a.s, a.set)
		back := readFrom(t, one, a.proveAsked)
		fillWith(one[:cap(one)], 99)
		fillWith(a.p.Gates[0], ext0)
		fillWith(a.p.Open.Queries[0].Paths[0], "overwritten")
		if !slices.Equal(two, plainProofBytes(want)) || !sameProof(back, want) {
			t.Error("bytes are shared")
		}
	}
}

// Nothing is kept of bytes that were refused, nor of those that were accepted.
func TestBytesAreNotKept(t *testing.T) {
	for _, s := range cheatSources() {
		right := toldOf(t, rightProveAsked(s))
		for range 3 {
			right.asksCode(t, impl.OK)
			right.with(right.b[1:]).asksCode(t, impl.ErrForm)
			right.with([]byte(turned(string(right.b), 8*39))).asksCode(t, impl.ErrSum)
		}
	}
}

func TestNoBytesAreNil(t *testing.T) {
	set, s := impl.Setting{Rate: 1, Queries: 1}, impl.Source{State: hashed("proofs")}
	right := shownOf(t, proveAsked{s: impl.System{Rows: 1, Cols: 2}, set: set, source: s})
	a, b := allTold{right, plainProofBytes(right.p)}, allTold{right, plainProofBytes(right.p)}
	a.publics, a.s.A, a.s.B, a.s.C, a.source.Script, a.p.Open.Roots = nil, nil, nil, nil, nil, nil
	b.publics, b.s.A, b.s.B, b.s.C = []int{}, []impl.Entry{}, []impl.Entry{}, []impl.Entry{}
	b.source.Script, b.p.Open.Roots = []impl.Ext{}, []string{}
	if one, two := codecAnswers(a), codecAnswers(b); one != two {
		t.Error(one, two)
	}
	asksReadBack(t, a.p, a.s, set, "nil")
	asksReadBack(t, b.p, b.s, set, "empty")
	a.b, b.b = nil, []byte{}
	a.p, b.p = impl.Proof{}, impl.Proof{Gates: [][]impl.Ext{}, Wires: [][]impl.Ext{}}
	if one, two := codecAnswers(a), codecAnswers(b); one != two {
		t.Error("nothing", one, two)
	}
}
