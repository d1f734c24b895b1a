package tests

import (
	"fmt"
	"slices"
	"strings"
	"testing"

	"loop.example/g00348/impl"
)

// Promise 14, of proofs of other lengths, of wrong systems, settings, numbers, sources, points and circuits, and of two things that are wrong at once.

// notProofs have one thing wrong each with a right one of rightSetting and at least 8 columns: parts missing, too many, of other lengths, or not right.
func notProofs(right impl.Proof) map[string]impl.Proof {
	list := map[string]impl.Proof{"nothing": {}}
	add := func(name string, does func(p *impl.Proof)) {
		p := copiedProof(right)
		does(&p)
		list[name] = p
	}
	for _, n := range []int{0, 1, 31, 33, 64, impl.MaxText, tooLong} {
		add(fmt.Sprint("root of ", n), func(p *impl.Proof) { p.Root = strings.Repeat("r", n) })
	}
	addSum(add, "gates", len(right.Gates), 4, func(p *impl.Proof) *[][]impl.Ext { return &p.Gates })
	addSum(add, "wires", len(right.Wires), 3, func(p *impl.Proof) *[][]impl.Ext { return &p.Wires })
	for i, bad := range wrongExts() {
		add(fmt.Sprint("VA ", i), func(p *impl.Proof) { p.VA = bad })
		add(fmt.Sprint("VB ", i), func(p *impl.Proof) { p.VB = bad })
		add(fmt.Sprint("VC ", i), func(p *impl.Proof) { p.VC = bad })
		add(fmt.Sprint("VW ", i), func(p *impl.Proof) { p.VW = bad })
	}
	for name, o := range notOpenings(right.Open) {
		add("opening: "+name, func(p *impl.Proof) { p.Open = o })
	}
	for name, o := range otherOpenings(len(right.Open.Rounds)) {
		add(name, func(p *impl.Proof) { p.Open = o })
	}
	return list
}

// otherOpenings are right ones, but of other numbers of variables, or of other settings.
func otherOpenings(vars int) map[string]impl.Opening {
	list := map[string]impl.Opening{}
	for other := 1; other <= impl.MaxVars; other++ {
		if other != vars {
			list[fmt.Sprint("opening of ", other, " variables")] = madeUp(other, rightSetting)
		}
	}
	for _, set := range []impl.Setting{{Rate: 1, Queries: 3}, {Rate: 3, Queries: 3}, {Rate: 2, Queries: 2}, {Rate: 2, Queries: 4}} {
		list[fmt.Sprint("opening of ", set)] = madeUp(vars, set)
	}
	return list
}

// addSum is of rounds of so many values each.
func addSum(add func(name string, does func(p *impl.Proof)), name string, rounds, size int, of func(p *impl.Proof) *[][]impl.Ext) {
	add(name+": none", func(p *impl.Proof) { *of(p) = nil })
	add(name+": one less", func(p *impl.Proof) { *of(p) = (*of(p))[:rounds-1] })
	add(name+": one less ahead", func(p *impl.Proof) { *of(p) = (*of(p))[1:] })
	add(name+": one more", func(p *impl.Proof) { *of(p) = append(*of(p), mixedExts(size)) })
	add(name+": one more of nothing", func(p *impl.Proof) { *of(p) = append(*of(p), nil) })
	add(name+": many", func(p *impl.Proof) { *of(p) = slices.Repeat(*of(p), longList) })
	wrong := wrongExts()
	for at := range rounds {
		for _, n := range []int{0, 1, 2, 3, 4, 5, 8, 9, longList} {
			if n != size {
				add(fmt.Sprint(name, " ", at, " of ", n), func(p *impl.Proof) { (*of(p))[at] = mixedExts(n) })
			}
		}
		for place := range size {
			for i := range 3 {
				bad := wrong[(at*size+place+29*i)%len(wrong)]
				add(fmt.Sprint(name, " ", at, ": value ", place, " is ", bad), func(p *impl.Proof) { (*of(p))[at][place] = bad })
			}
		}
	}
}

func asksNoProof(t *testing.T, a shownProof, what ...any) {
	t.Helper()
	if impl.ProofOK(a.p, a.s, a.set) {
		t.Error(what, "is right")
	}
	a.asksCode(t, impl.ErrLength, what...)
}

func TestProofsOfNoRightLengths(t *testing.T) {
	for _, size := range [][2]int{{1, 3}, {2, 3}, {3, 5}} {
		for _, source := range cheatSources() {
			a := shownOf(t, fullAsked(size[0], size[1], rightSetting, source))
			for name, p := range notProofs(a.p) {
				asksNoProof(t, shownProof{a.proveAsked, p}, name)
			}
		}
	}
}

// Of the least Cols the opening has one round and no root.
func TestProofsOfTheLeastSystem(t *testing.T) {
	a := shownOf(t, fullAsked(1, 2, impl.Setting{Rate: 1, Queries: 1}, cheatSources()[0]))
	for i, does := range []func(p *impl.Proof){
		func(p *impl.Proof) { p.Gates = nil },
		func(p *impl.Proof) { p.Gates = append(p.Gates, mixedExts(4)) },
		func(p *impl.Proof) { p.Wires = p.Wires[:1] },
		func(p *impl.Proof) { p.Wires = append(p.Wires, mixedExts(3)) },
		func(p *impl.Proof) { p.Gates[0] = p.Gates[0][:3] },
		func(p *impl.Proof) { p.Gates[0] = append(p.Gates[0], ext0) },
		func(p *impl.Proof) { p.Wires[1] = p.Wires[1][:2] },
		func(p *impl.Proof) { p.Wires[1] = append(p.Wires[1], ext0) },
		func(p *impl.Proof) { p.Root = p.Root[:31] },
		func(p *impl.Proof) { p.Root += "x" },
		func(p *impl.Proof) { p.Open.Rounds = nil },
		func(p *impl.Proof) { p.Open.Roots = []string{hashed("x")} },
		func(p *impl.Proof) { p.Open.Queries = nil },
		func(p *impl.Proof) { p.Open.Queries = append(p.Open.Queries, p.Open.Queries[0]) },
		func(p *impl.Proof) { p.Open.Queries[0].Paths[0] = nil },
		func(p *impl.Proof) { p.Open.Nonce = 65536 },
		func(p *impl.Proof) { p.Open.Nonce = -1 },
	} {
		asksNoProof(t, a.changed(does), "case", i)
	}
}

// Of no system and no setting there is a proof, not even an empty one.
func TestNoProofsOfWrongSystemsAndSettings(t *testing.T) {
	right := madeUpProof(impl.System{Rows: 2, Cols: 3}, rightSetting)
	proofs := []impl.Proof{right, {}, {Root: hashed("x")}, {Root: hashed("x"), Gates: right.Gates, Wires: right.Wires[:1]}}
	for _, p := range proofs {
		for i, s := range wrongSystems() {
			if impl.ProofOK(p, s, rightSetting) {
				t.Error("system", i)
			}
		}
		for _, set := range wrongSettings() {
			if impl.ProofOK(p, impl.System{Rows: 2, Cols: 3}, set) {
				t.Error(set)
			}
		}
	}
	for _, n := range []int{0, 1, 6, 7, -1} {
		s := impl.System{Rows: n, Cols: 3}
		p := right
		p.Gates = slices.Repeat([][]impl.Ext{mixedExts(4)}, max(n, 0))
		if impl.ProofOK(p, s, rightSetting) != (n == 1) {
			t.Error(n, "rows")
		}
	}
}

func TestVerifyFaults(t *testing.T) {
	for _, source := range cheatSources() {
		right := shownOf(t, rightProveAsked(source))
		for i, s := range wrongSystems() {
			a := right
			a.s = s
			a.asksCode(t, impl.ErrBad, "system", i)
		}
		for _, set := range wrongSettings() {
			a := right
			a.set = set
			a.asksCode(t, impl.ErrBad, set)
		}
		for _, bad := range wrongNumbers {
			for _, n := range []int{1, 3, 4, impl.MaxList} {
				a := right
				a.publics = numbersWith(n, n-1, bad)
				a.asksCode(t, impl.ErrBad, n, "public numbers with", bad)
			}
		}
		for i, s := range wrongSources() {
			a := right
			a.source = s
			a.asksCode(t, impl.ErrBad, "source", i)
		}
		for i, s := range fewForProof() {
			a := right
			a.source = s
			a.asksCode(t, impl.ErrMany, "source", i)
		}
		for _, n := range []int{0, 1, 2, 4, 5, 8, impl.MaxList} {
			a := right
			a.publics = make([]int, n)
			a.asksCode(t, impl.ErrPublic, n, "public numbers")
		}
		for _, n := range []int{longList, 2 * impl.MaxList} {
			a := right
			a.publics = make([]int, n)
			a.asksCode(t, impl.ErrLong, n, "public numbers")
		}
	}
}

// shownFault is one thing that may be wrong, with its code; they stand in the order in which chapters 13, 14, 9 and 10 name them.
type shownFault struct {
	code int
	does func(a *shownProof)
}

// faultsOfStart are those of proveFaults that a verifier knows of, too.
func faultsOfStart(right proveAsked) []shownFault {
	var list []shownFault
	for _, f := range proveFaults() {
		if isOfStart(f, right) {
			list = append(list, shownFault{f.code, func(a *shownProof) { f.does(&a.proveAsked) }})
		}
	}
	return list
}

func lengthFaults() []shownFault {
	var list []shownFault
	for _, does := range []func(p *impl.Proof){
		func(p *impl.Proof) { p.Root = "short" },
		func(p *impl.Proof) { p.Root = strings.Repeat("r", tooLong) },
		func(p *impl.Proof) { p.Gates = p.Gates[:1] },
		func(p *impl.Proof) { p.Gates = slices.Repeat(p.Gates, longList) },
		func(p *impl.Proof) { p.Gates[1] = mixedExts(3) },
		func(p *impl.Proof) { p.Gates[0] = mixedExts(9) },
		func(p *impl.Proof) { p.Gates[0] = extsWith(4, 3, badExt) },
		func(p *impl.Proof) { p.VA = badExt },
		func(p *impl.Proof) { p.VB = badExt },
		func(p *impl.Proof) { p.VC = badExt },
		func(p *impl.Proof) { p.Wires = append(p.Wires, mixedExts(3)) },
		func(p *impl.Proof) { p.Wires[2] = mixedExts(4) },
		func(p *impl.Proof) { p.Wires[1] = extsWith(3, 0, badExt) },
		func(p *impl.Proof) { p.VW = badExt },
		func(p *impl.Proof) { p.Open = impl.Opening{} },
		func(p *impl.Proof) { p.Open.Nonce = 65536 },
		func(p *impl.Proof) { p.Open.Last = badExt },
	} {
		list = append(list, shownFault{impl.ErrLength, func(a *shownProof) { does(&a.p) }})
	}
	return list
}

func refusalFaults(t *testing.T) []shownFault {
	return []shownFault{
		{impl.ErrSum, func(a *shownProof) { a.p.Gates[0][0] = extAdd(a.p.Gates[0][0], ext1) }},
		{impl.ErrSum, func(a *shownProof) { a.p.Gates[1][1] = extAdd(a.p.Gates[1][1], ext1) }},
		{impl.ErrClaim, func(a *shownProof) { a.p.Gates[1][3] = extAdd(a.p.Gates[1][3], ext1) }},
		{impl.ErrClaim, func(a *shownProof) { a.p.VA = extAdd(a.p.VA, ext1) }},
		{impl.ErrClaim, func(a *shownProof) { a.p.VC = extAdd(a.p.VC, extX) }},
		{impl.ErrSum, func(a *shownProof) { a.p.Wires[0][1] = extAdd(a.p.Wires[0][1], ext1) }},
		{impl.ErrSum, func(a *shownProof) { a.p.Wires[2][0] = extAdd(a.p.Wires[2][0], ext1) }},
		{impl.ErrClaim, func(a *shownProof) { a.p.Wires[2][2] = extAdd(a.p.Wires[2][2], ext1) }},
		{impl.ErrClaim, func(a *shownProof) { a.p.VW = extAdd(a.p.VW, ext1) }},
		{impl.ErrSum, func(a *shownProof) { a.p.Open.Rounds[0][0] = extAdd(a.p.Open.Rounds[0][0], ext1) }},
		{impl.ErrClaim, func(a *shownProof) { a.p.Open.Rounds[1][2] = extAdd(a.p.Open.Rounds[1][2], ext1) }},
		{impl.ErrClaim, func(a *shownProof) { a.p.Open.Last = extAdd(a.p.Open.Last, ext1) }},
		{impl.ErrGrind, func(a *shownProof) { a.p.Open.Nonce = noNonce(nonceState(t, *a), a.set.Grind) }},
		{impl.ErrPath, func(a *shownProof) { a.p.Open.Queries[0].Pairs[1] = extAdd(a.p.Open.Queries[0].Pairs[1], ext1) }},
		{impl.ErrPath, func(a *shownProof) { a.p.Open.Queries[2].Paths[1][0] = hashed("x") }},
	}
}

func TestVerifyOrderOfCodes(t *testing.T) {
	for _, source := range cheatSources() {
		right := shownOf(t, rightProveAsked(source))
		early := append(faultsOfStart(right.proveAsked), lengthFaults()...)
		for i, first := range early {
			for j, second := range append(slices.Clone(early[i:]), refusalFaults(t)...) {
				// The first one is done last, so that the other one can't take it away again.
				a := right.changed(func(*impl.Proof) {})
				if j > 0 {
					second.does(&a)
				}
				first.does(&a)
				a.asksCode(t, first.code, "faults", i, i+j)
			}
		}
	}
}

func TestRefusalsInTheirOrder(t *testing.T) {
	for _, source := range cheatSources() {
		right, late := shownOf(t, rightProveAsked(source)), refusalFaults(t)
		for i, first := range late {
			for j, second := range late[i:] {
				// A sponge draws by all that is told ahead, so the earlier part is changed first: a nonce that does not do is one behind it.
				a := right.changed(func(*impl.Proof) {})
				first.does(&a)
				if j > 0 {
					second.does(&a)
				}
				a.asksCode(t, first.code, "faults", i, i+j)
			}
		}
	}
}

func asksPublicCode(t *testing.T, s impl.System, publics []int, point []impl.Ext, want int, what ...any) {
	t.Helper()
	if value, code := impl.PublicAt(s, publics, point); value != ext0 || code != want {
		t.Error("PublicAt of", s.Rows, s.Cols, s.Publics, len(publics), len(point), what, "has", value, code, "is to have", want)
	}
}

func TestPublicAtFaults(t *testing.T) {
	right := impl.System{Rows: 2, Cols: 3, Publics: 3}
	publics, point := []int{1, 2, 3}, mixedExts(2)
	for i, s := range wrongSystems() {
		asksPublicCode(t, s, publics, point, impl.ErrBad, "system", i)
	}
	for _, bad := range wrongNumbers {
		for _, n := range []int{1, 3, 4, impl.MaxList} {
			for _, at := range []int{0, n / 2, n - 1} {
				asksPublicCode(t, right, numbersWith(n, at, bad), point, impl.ErrBad, bad)
			}
		}
	}
	for _, bad := range wrongExts() {
		for _, n := range []int{1, 2, 3, 6, impl.MaxList} {
			for _, at := range []int{0, n - 1} {
				asksPublicCode(t, right, publics, extsWith(n, at, bad), impl.ErrBad, bad)
			}
		}
	}
	// A point has at most MaxVars elements.
	for _, n := range []int{7, 8, 64, impl.MaxList} {
		asksPublicCode(t, right, publics, mixedExts(n), impl.ErrBad)
	}
	for cols := 2; cols <= 5; cols++ {
		for n := range 7 {
			if n != cols-1 {
				asksPublicCode(t, impl.System{Rows: 1, Cols: cols}, nil, mixedExts(n), impl.ErrSize)
			}
		}
		half := 1 << (cols - 1)
		for n := range half {
			s := impl.System{Rows: 1, Cols: cols, Publics: n}
			for _, other := range []int{0, 1, n - 1, n + 1, half, 2 * half, impl.MaxList} {
				if other >= 0 && other != n {
					asksPublicCode(t, s, make([]int, other), mixedExts(cols-1), impl.ErrSize)
				}
			}
		}
	}
}

func TestPublicAtOrderOfCodes(t *testing.T) {
	type asked struct {
		s       impl.System
		publics []int
		point   []impl.Ext
	}
	faults := []struct {
		code int
		does func(a *asked)
	}{
		{impl.ErrLong, func(a *asked) { a.publics = make([]int, longList) }},
		{impl.ErrLong, func(a *asked) { a.publics = slices.Repeat([]int{-1}, longList) }},
		{impl.ErrLong, func(a *asked) { a.point = mixedExts(longList) }},
		{impl.ErrLong, func(a *asked) { a.point = extsWith(longList, 0, badExt) }},
		{impl.ErrBad, func(a *asked) { a.s.Cols = 6 }},
		{impl.ErrBad, func(a *asked) { a.s.Rows = 0 }},
		{impl.ErrBad, func(a *asked) { a.s.Publics = 4 }},
		{impl.ErrBad, func(a *asked) { a.s.C = []impl.Entry{{Col: 8, Value: 1}} }},
		{impl.ErrBad, func(a *asked) { a.publics = []int{1, 2, prime} }},
		{impl.ErrBad, func(a *asked) { a.publics = []int{-1} }},
		{impl.ErrBad, func(a *asked) { a.point = []impl.Ext{ext1, badExt} }},
		{impl.ErrBad, func(a *asked) { a.point = []impl.Ext{badExt} }},
		{impl.ErrBad, func(a *asked) { a.point = extsWith(3, 2, badExt) }},
		{impl.ErrSize, func(a *asked) { a.publics = nil }},
		{impl.ErrSize, func(a *asked) { a.publics = []int{1, 2} }},
		{impl.ErrSize, func(a *asked) { a.publics = []int{1, 2, 3, 4} }},
		{impl.ErrSize, func(a *asked) { a.point = nil }},
		{impl.ErrSize, func(a *asked) { a.point = mixedExts(1) }},
		{impl.ErrSize, func(a *asked) { a.point = mixedExts(3) }},
	}
	for i, first := range faults {
		for j, second := range faults[i:] {
			a := asked{impl.System{Rows: 2, Cols: 3, Publics: 3}, []int{1, 2, 3}, mixedExts(2)}
			second.does(&a)
			first.does(&a)
			asksPublicCode(t, a.s, a.publics, a.point, first.code, "faults", i, i+j)
		}
	}
}

// shownCircuit is what VerifyCircuit is handed.
type shownCircuit struct {
	c       impl.Circuit
	set     impl.Setting
	publics []int
	p       impl.Proof
	source  impl.Source
}

func (a shownCircuit) asksCode(t *testing.T, want int, what ...any) {
	t.Helper()
	if ok, code := impl.VerifyCircuit(a.c, a.set, a.publics, a.p, a.source); ok != (want == impl.OK) || code != want {
		t.Error("VerifyCircuit", what, "has", ok, code, "is to have", want)
	}
}

func rightShownCircuit(t *testing.T, s impl.Source) shownCircuit {
	t.Helper()
	a := rightCircuitProof(s)
	p, code := impl.ProveCircuit(a.c, a.set, a.publics, a.inputs, a.source)
	if code != impl.OK {
		t.Fatal("ProveCircuit", code)
	}
	return shownCircuit{a.c, a.set, a.publics, p, s}
}

func TestVerifyCircuitFaults(t *testing.T) {
	for _, s := range cheatSources() {
		right := rightShownCircuit(t, s)
		right.asksCode(t, impl.OK)
		for i, c := range noCircuits() {
			a := right
			a.c = c
			a.asksCode(t, impl.ErrCircuit, "circuit", i)
		}
		for _, bad := range wrongNumbers {
			a := right
			a.publics = []int{1, bad}
			a.asksCode(t, impl.ErrBad, "public number", bad)
		}
		for _, n := range []int{0, 1, 3, 4, 15, impl.MaxList} {
			a := right
			a.publics = make([]int, n)
			a.asksCode(t, impl.ErrPublic, n, "public numbers")
		}
		for _, set := range wrongSettings() {
			a := right
			a.set = set
			a.asksCode(t, impl.ErrBad, set)
		}
		for i, source := range wrongSources() {
			a := right
			a.source = source
			a.asksCode(t, impl.ErrBad, "source", i)
		}
		for i, source := range fewForProof() {
			a := right
			a.source = source
			a.asksCode(t, impl.ErrMany, "source", i)
		}
		for name, p := range notProofs(right.p) {
			a := right
			a.p = p
			a.asksCode(t, impl.ErrLength, name)
		}
	}
}

func shownCircuitFaults() []struct {
	code int
	does func(a *shownCircuit)
} {
	return []struct {
		code int
		does func(a *shownCircuit)
	}{
		{impl.ErrLong, func(a *shownCircuit) { a.publics = slices.Repeat([]int{-1}, longList) }},
		{impl.ErrLong, func(a *shownCircuit) { a.publics = make([]int, longList) }},
		{impl.ErrCircuit, func(a *shownCircuit) { a.c = impl.Circuit{} }},
		{impl.ErrCircuit, func(a *shownCircuit) { a.c = circuitOf(append(slices.Clone(takesBoth), sumGate(7, 0))...) }},
		{impl.ErrCircuit, func(a *shownCircuit) { a.c.Gates = make([]impl.Gate, longList) }},
		{impl.ErrBad, func(a *shownCircuit) { a.set.Rate = 4 }},
		{impl.ErrBad, func(a *shownCircuit) { a.publics = []int{1, prime} }},
		{impl.ErrBad, func(a *shownCircuit) { a.publics = []int{-1} }},
		{impl.ErrBad, func(a *shownCircuit) { a.source.State = "short" }},
		{impl.ErrPublic, func(a *shownCircuit) { a.publics = nil }},
		{impl.ErrPublic, func(a *shownCircuit) { a.publics = []int{1, 2, 3} }},
		{impl.ErrMany, func(a *shownCircuit) { a.source.At = allDraws - 199 }},
		{impl.ErrMany, func(a *shownCircuit) { a.source.Count = allDraws }},
		{impl.ErrLength, func(a *shownCircuit) { a.p = impl.Proof{} }},
		{impl.ErrLength, func(a *shownCircuit) { a.p.Root = "short" }},
		{impl.ErrLength, func(a *shownCircuit) { a.p.VW = badExt }},
		{impl.ErrClaim, func(a *shownCircuit) { a.p.VC = extAdd(a.p.VC, ext1) }},
		{impl.ErrClaim, func(a *shownCircuit) { a.p.VW = extAdd(a.p.VW, ext1) }},
	}
}

func TestVerifyCircuitOrderOfCodes(t *testing.T) {
	for _, s := range cheatSources() {
		right, faults := rightShownCircuit(t, s), shownCircuitFaults()
		for i, first := range faults {
			for j, second := range faults[i:] {
				a := right
				second.does(&a)
				first.does(&a)
				a.asksCode(t, first.code, "faults", i, i+j)
			}
		}
	}
}
