package tests

import (
	"slices"
	"testing"

	"loop.example/g00348/impl"
)

// Promise 13, of wrong systems, settings, numbers, sources and circuits, and of two things that are wrong at once.

// fewForProof are right sources with fewer than 200 draws left.
func fewForProof() []impl.Source {
	var list []impl.Source
	for _, script := range [][]impl.Ext{nil, mixedExts(5)} {
		s := impl.Source{State: hashed("proofs"), Script: script}
		for _, left := range []int{0, 1, 6, 30, 99, 100, 198, 199} {
			n := allDraws - left
			list = append(list, withNumbers(s, n, 0), withNumbers(s, 0, n), withNumbers(s, n, n), withNumbers(s, n, allDraws-leftForProof), withNumbers(s, allDraws-leftForProof, n))
		}
	}
	return list
}

// wrongSystems have one fault each; all of them have three public numbers but where that is the fault.
func wrongSystems() []impl.System {
	list := []impl.System{{}, {Rows: -1, Cols: -1, Publics: -1}}
	for _, n := range []int{0, -1, 6, 7, 63, 64, 1 << 32, 1<<32 + 2, -1 << 63, 1<<63 - 1} {
		list = append(list, impl.System{Rows: n, Cols: 3, Publics: 3}, impl.System{Rows: 2, Cols: n, Publics: 3})
	}
	for _, n := range []int{-1, 4, 5, 8, 1 << 32, 1<<32 + 3, -1 << 63, 1<<63 - 1} {
		list = append(list, impl.System{Rows: 2, Cols: 3, Publics: n})
	}
	list = append(list, impl.System{Rows: 2, Cols: 1, Publics: 0}, impl.System{Rows: 2, Cols: 2, Publics: 3})
	for _, m := range append(noMatrices(), tooManyEntries(), make([]impl.Entry, longList)) {
		list = append(list, impl.System{A: m}, impl.System{B: m}, impl.System{C: m})
		for i := len(list) - 3; i < len(list); i++ {
			list[i].Rows, list[i].Cols, list[i].Publics = 2, 3, 3
		}
	}
	return list
}

// asksStartCode wants a code of Start and of Prove.
func (a proveAsked) asksStartCode(t *testing.T, want int, what ...any) {
	t.Helper()
	if s, code := impl.Start(a.s, a.set, a.publics, a.source); code != want || !isNoSource(s) {
		t.Error("Start", what, "has", code, "is to have", want)
	}
	a.asksCode(t, want, what...)
}

// rightProveAsked is proved, of either sort of sources.
func rightProveAsked(s impl.Source) proveAsked { return fullAsked(2, 3, rightSetting, s) }

func TestStartFaults(t *testing.T) {
	for _, s := range cheatSources() {
		right := rightProveAsked(s)
		proved(t, right)
		for i, system := range wrongSystems() {
			a := right
			a.s = system
			a.asksStartCode(t, impl.ErrBad, "system", i)
		}
		for _, set := range wrongSettings() {
			a := right
			a.set = set
			a.asksStartCode(t, impl.ErrBad, set)
		}
		for _, bad := range wrongNumbers {
			for _, n := range []int{1, 3, 4, impl.MaxList} {
				for _, at := range []int{0, n / 2, n - 1} {
					a := right
					a.publics = numbersWith(n, at, bad)
					a.asksStartCode(t, impl.ErrBad, n, "public numbers with", bad)
				}
			}
		}
		for i, source := range wrongSources() {
			a := right
			a.source = source
			a.asksStartCode(t, impl.ErrBad, "source", i)
		}
		for i, source := range fewForProof() {
			a := right
			a.source = source
			a.asksStartCode(t, impl.ErrMany, "source", i)
		}
	}
}

func TestOtherThanPublicsNumbers(t *testing.T) {
	for cols := 2; cols <= 5; cols++ {
		half := 1 << (cols - 1)
		for publics := range half {
			for _, n := range []int{0, 1, publics - 1, publics + 1, half - 1, half, 2 * half, impl.MaxList} {
				a := proveAsked{s: impl.System{Rows: 1, Cols: cols, Publics: publics}, set: rightSetting, source: impl.Source{State: hashed("proofs")}}
				if n >= 0 && n != publics {
					a.publics = numbersOf(n, 3)
					a.asksStartCode(t, impl.ErrPublic, cols, publics, n)
				}
			}
		}
	}
}

// Of as few draws as take no proof further, none is begun, however few it would take.
func TestProofsOfFewDraws(t *testing.T) {
	least := proveAsked{s: impl.System{Rows: 1, Cols: 2}, set: impl.Setting{Rate: 1, Queries: 1}}
	for i, s := range fewForProof() {
		least.source = s
		least.asksStartCode(t, impl.ErrMany, "source", i)
	}
	for _, s := range proofSources() {
		least.source = s
		started(t, least)
		proved(t, least)
	}
}

func TestWrongPrivates(t *testing.T) {
	right := rightProveAsked(impl.Source{State: hashed("proofs")})
	for _, bad := range wrongNumbers {
		for _, n := range []int{1, 3, 4, 5, 8, impl.MaxList} {
			for _, at := range []int{0, n / 2, n - 1} {
				a := right
				a.privates = numbersWith(n, at, bad)
				a.asksCode(t, impl.ErrBad, n, "privates with", bad)
			}
		}
	}
	for cols := 2; cols <= 5; cols++ {
		a := proveAsked{s: impl.System{Rows: 1, Cols: cols}, set: rightSetting, source: right.source}
		half := 1 << (cols - 1)
		for _, n := range []int{half + 1, 2*half - 1, 2 * half, 2*half + 1, 64, impl.MaxList} {
			a.privates = make([]int, n)
			a.asksCode(t, impl.ErrSize, cols, "columns", n, "noughts")
			a.privates = numbersOf(n, 2)
			a.asksCode(t, impl.ErrSize, cols, "columns", n, "privates")
		}
		a.privates = numbersOf(half, 2)
		proved(t, a)
	}
}

// proveFault is one thing that may be wrong, with its code; they stand in the order in which chapter 13 names them.
type proveFault struct {
	code int
	does func(a *proveAsked)
}

func proveFaults() []proveFault {
	return []proveFault{
		{impl.ErrLong, func(a *proveAsked) { a.publics = make([]int, longList) }},
		{impl.ErrLong, func(a *proveAsked) { a.publics = slices.Repeat([]int{-1}, longList) }},
		{impl.ErrLong, func(a *proveAsked) { a.privates = make([]int, longList) }},
		{impl.ErrLong, func(a *proveAsked) { a.privates = slices.Repeat([]int{prime}, longList) }},
		{impl.ErrBad, func(a *proveAsked) { a.s.Rows = 6 }},
		{impl.ErrBad, func(a *proveAsked) { a.s.Publics = 4 }},
		{impl.ErrBad, func(a *proveAsked) { a.s.B = []impl.Entry{{Value: prime}} }},
		{impl.ErrBad, func(a *proveAsked) { a.set.Rate = 0 }},
		{impl.ErrBad, func(a *proveAsked) { a.set.Queries = 9 }},
		{impl.ErrBad, func(a *proveAsked) { a.set.Grind = 13 }},
		{impl.ErrBad, func(a *proveAsked) { a.publics = []int{1, 2, prime} }},
		{impl.ErrBad, func(a *proveAsked) { a.publics = []int{-1} }},
		{impl.ErrBad, func(a *proveAsked) { a.publics = numbersWith(impl.MaxList, impl.MaxList-1, -1) }},
		{impl.ErrBad, func(a *proveAsked) { a.source.State = "short" }},
		{impl.ErrBad, func(a *proveAsked) { a.source.Script = make([]impl.Ext, longList) }},
		{impl.ErrPublic, func(a *proveAsked) { a.publics = nil }},
		{impl.ErrPublic, func(a *proveAsked) { a.publics = make([]int, 2) }},
		{impl.ErrPublic, func(a *proveAsked) { a.publics = make([]int, 4) }},
		{impl.ErrPublic, func(a *proveAsked) { a.s.Publics = 1 }},
		{impl.ErrMany, func(a *proveAsked) { a.source.At = allDraws - 199 }},
		{impl.ErrMany, func(a *proveAsked) { a.source.Count = allDraws }},
		{impl.ErrBad, func(a *proveAsked) { a.privates = []int{1, -1} }},
		{impl.ErrBad, func(a *proveAsked) { a.privates = numbersWith(5, 4, prime) }},
		{impl.ErrBad, func(a *proveAsked) { a.privates = numbersWith(impl.MaxList, impl.MaxList-1, prime) }},
		{impl.ErrSize, func(a *proveAsked) { a.privates = make([]int, 5) }},
		{impl.ErrSize, func(a *proveAsked) { a.privates = append(slices.Clone(a.privates), 0) }},
		{impl.ErrUnsatisfied, func(a *proveAsked) { a.s = failing(a.s, 1) }},
		{impl.ErrUnsatisfied, func(a *proveAsked) { a.s.C = []impl.Entry{{Row: 3, Value: 1}} }},
	}
}

// isOfStart tells whether the fault is one of what Start is handed, too.
func isOfStart(f proveFault, right proveAsked) bool {
	a := right
	f.does(&a)
	_, code := impl.Start(a.s, a.set, a.publics, a.source)
	return code != impl.OK
}

func TestProveOrderOfCodes(t *testing.T) {
	for _, s := range cheatSources() {
		base, faults := rightProveAsked(s), proveFaults()
		proved(t, base)
		for i, first := range faults {
			one := base
			first.does(&one)
			one.asksCode(t, first.code, "fault", i)
			for j, second := range faults[i+1:] {
				// The first one is done last, so that the other one can't take it away again.
				two := base
				second.does(&two)
				first.does(&two)
				two.asksCode(t, first.code, "faults", i, i+1+j)
			}
		}
	}
}

func TestStartOrderOfCodes(t *testing.T) {
	for _, s := range cheatSources() {
		base := rightProveAsked(s)
		var faults []proveFault
		for _, f := range proveFaults() {
			if isOfStart(f, base) {
				faults = append(faults, f)
			}
		}
		if len(faults) != 19 {
			t.Fatal("faults of Start:", len(faults))
		}
		for i, first := range faults {
			for j, second := range append([]proveFault{first}, faults[i+1:]...) {
				two := base
				second.does(&two)
				first.does(&two)
				if got, code := impl.Start(two.s, two.set, two.publics, two.source); code != first.code || !isNoSource(got) {
					t.Error("Start, faults", i, i+j, "has", code, "is to have", first.code)
				}
			}
		}
	}
}

// boundAsked is what BoundTable is handed.
type boundAsked struct {
	s  impl.System
	rx []impl.Ext
	r  [3]impl.Ext
}

func (a boundAsked) asksCode(t *testing.T, want int, what ...any) {
	t.Helper()
	if table, code := impl.BoundTable(a.s, a.rx, a.r[0], a.r[1], a.r[2]); code != want || len(table) != 0 {
		t.Error("BoundTable", what, "has", len(table), code, "is to have", want)
	}
}

func rightBoundAsked() boundAsked {
	return boundAsked{s: rightProveAsked(impl.Source{}).s, rx: mixedExts(2), r: [3]impl.Ext{ext1, extX, {A: 5, B: 6}}}
}

func TestBoundTableFaults(t *testing.T) {
	right := rightBoundAsked()
	for i, s := range wrongSystems() {
		a := right
		a.s = s
		a.asksCode(t, impl.ErrBad, "system", i)
	}
	for _, bad := range wrongExts() {
		for i := range right.r {
			a := right
			a.r[i] = bad
			a.asksCode(t, impl.ErrBad, "drawn", i, bad)
		}
		for _, n := range []int{1, 2, 3, impl.MaxList} {
			for _, at := range []int{0, n - 1} {
				a := right
				a.rx = extsWith(n, at, bad)
				a.asksCode(t, impl.ErrBad, "an element of", n, bad)
			}
		}
	}
	for rows := 1; rows <= 5; rows++ {
		for _, n := range []int{0, 1, 2, 3, 4, 5, 6, 7, 64, impl.MaxList} {
			a := boundAsked{impl.System{Rows: rows, Cols: 2}, mixedExts(n), right.r}
			if n != rows {
				a.asksCode(t, impl.ErrSize, rows, n)
			}
		}
	}
}

func TestBoundTableOrderOfCodes(t *testing.T) {
	faults := []struct {
		code int
		does func(a *boundAsked)
	}{
		{impl.ErrLong, func(a *boundAsked) { a.rx = mixedExts(longList) }},
		{impl.ErrLong, func(a *boundAsked) { a.rx = slices.Repeat([]impl.Ext{badExt}, longList) }},
		{impl.ErrBad, func(a *boundAsked) { a.s.Rows = 0 }},
		{impl.ErrBad, func(a *boundAsked) { a.s = impl.System{} }},
		{impl.ErrBad, func(a *boundAsked) { a.rx = []impl.Ext{ext1, badExt} }},
		{impl.ErrBad, func(a *boundAsked) { a.rx = []impl.Ext{badExt} }},
		{impl.ErrBad, func(a *boundAsked) { a.rx = extsWith(impl.MaxList, 5, badExt) }},
		{impl.ErrBad, func(a *boundAsked) { a.r[0] = badExt }},
		{impl.ErrBad, func(a *boundAsked) { a.r[1] = badExt }},
		{impl.ErrBad, func(a *boundAsked) { a.r[2] = badExt }},
		{impl.ErrSize, func(a *boundAsked) { a.rx = nil }},
		{impl.ErrSize, func(a *boundAsked) { a.rx = mixedExts(1) }},
		{impl.ErrSize, func(a *boundAsked) { a.rx = mixedExts(3) }},
	}
	for i, first := range faults {
		for j, second := range faults[i:] {
			a := rightBoundAsked()
			second.does(&a)
			first.does(&a)
			a.asksCode(t, first.code, "faults", i, i+j)
		}
	}
}

// circuitProofAsked is what ProveCircuit is handed.
type circuitProofAsked struct {
	c               impl.Circuit
	set             impl.Setting
	publics, inputs []int
	source          impl.Source
}

func rightCircuitProof(s impl.Source) circuitProofAsked {
	return circuitProofAsked{circuitOf(takesBoth...), rightSetting, []int{1, 2}, []int{3, 4, 4}, s}
}

func (a circuitProofAsked) asksCode(t *testing.T, want int, what ...any) {
	t.Helper()
	if p, code := impl.ProveCircuit(a.c, a.set, a.publics, a.inputs, a.source); code != want || !sameProof(p, impl.Proof{}) {
		t.Error("ProveCircuit", what, "has", code, "is to have", want)
	}
}

func TestProveCircuitFaults(t *testing.T) {
	for _, s := range cheatSources() {
		right := rightCircuitProof(s)
		for i, c := range noCircuits() {
			a := right
			a.c = c
			a.asksCode(t, impl.ErrCircuit, "circuit", i)
		}
		for _, bad := range wrongNumbers {
			a, b := right, right
			a.publics, b.inputs = []int{bad, 2}, []int{3, 4, bad}
			a.asksCode(t, impl.ErrBad, "public number", bad)
			b.asksCode(t, impl.ErrBad, "input", bad)
		}
		for _, n := range []int{0, 1, 2, 3, 4, 15, impl.MaxList} {
			a, b := right, right
			a.publics, b.inputs = make([]int, n), make([]int, n)
			if n != 2 {
				a.asksCode(t, impl.ErrSize, n, "public numbers")
			}
			if n != 3 {
				b.asksCode(t, impl.ErrSize, n, "inputs")
			}
		}
		for _, set := range wrongSettings() {
			a := right
			a.set = set
			a.asksCode(t, impl.ErrBad, set)
		}
		for i, source := range wrongSources() {
			a := right
			a.source = source
			a.asksCode(t, impl.ErrBad, "source", i)
		}
		for i, source := range fewForProof() {
			a := right
			a.source = source
			a.asksCode(t, impl.ErrMany, "source", i)
		}
	}
}

func circuitProofFaults() []struct {
	code int
	does func(a *circuitProofAsked)
} {
	return []struct {
		code int
		does func(a *circuitProofAsked)
	}{
		{impl.ErrLong, func(a *circuitProofAsked) { a.publics = slices.Repeat([]int{-1}, longList) }},
		{impl.ErrLong, func(a *circuitProofAsked) { a.inputs = make([]int, longList) }},
		{impl.ErrCircuit, func(a *circuitProofAsked) { a.c = impl.Circuit{} }},
		{impl.ErrCircuit, func(a *circuitProofAsked) { a.c = circuitOf(append(slices.Clone(takesBoth), sumGate(7, 0))...) }},
		{impl.ErrBad, func(a *circuitProofAsked) { a.publics = []int{1, prime} }},
		{impl.ErrBad, func(a *circuitProofAsked) { a.publics = []int{-1} }},
		{impl.ErrBad, func(a *circuitProofAsked) { a.inputs = []int{3, 4, -1} }},
		{impl.ErrBad, func(a *circuitProofAsked) { a.inputs = []int{3, 4, 4, prime} }},
		{impl.ErrSize, func(a *circuitProofAsked) { a.publics = nil }},
		{impl.ErrSize, func(a *circuitProofAsked) { a.publics = []int{1, 2, 3} }},
		{impl.ErrSize, func(a *circuitProofAsked) { a.inputs = []int{3, 4} }},
		{impl.ErrSize, func(a *circuitProofAsked) { a.inputs = []int{3, 4, 5, 6} }},
		{impl.ErrBad, func(a *circuitProofAsked) { a.set.Rate = 4 }},
		{impl.ErrBad, func(a *circuitProofAsked) { a.set.Queries = 0 }},
		{impl.ErrBad, func(a *circuitProofAsked) { a.set.Grind = -1 }},
		{impl.ErrBad, func(a *circuitProofAsked) { a.source.State = "short" }},
		{impl.ErrBad, func(a *circuitProofAsked) { a.source.At = -1 }},
		{impl.ErrMany, func(a *circuitProofAsked) { a.source.At = allDraws - 199 }},
		{impl.ErrMany, func(a *circuitProofAsked) { a.source.Count = allDraws }},
		{impl.ErrUnsatisfied, func(a *circuitProofAsked) { a.inputs = []int{3, 4, 5} }},
		{impl.ErrUnsatisfied, func(a *circuitProofAsked) { a.c.Gates = append(slices.Clone(a.c.Gates), bitGate(1)) }},
	}
}

func TestProveCircuitOrderOfCodes(t *testing.T) {
	for _, s := range cheatSources() {
		if _, code := impl.ProveCircuit(circuitOf(takesBoth...), rightSetting, []int{1, 2}, []int{3, 4, 4}, s); code != impl.OK {
			t.Fatal("the right one", code)
		}
		faults := circuitProofFaults()
		for i, first := range faults {
			for j, second := range faults[i:] {
				a := rightCircuitProof(s)
				second.does(&a)
				first.does(&a)
				a.asksCode(t, first.code, "faults", i, i+j)
			}
		}
	}
}
