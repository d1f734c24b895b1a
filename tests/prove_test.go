package tests

import (
	"slices"
	"testing"

	"loop.example/g00348/impl"
)

// Promise 13, of what is proved.

// toOpen is a proof up to its opening, and what that is of.
type toOpen struct {
	p              impl.Proof
	private, point []impl.Ext
	source         impl.Source
}

// toldAheadOfOpening goes by the calls that chapter 13 names, one behind the other.
func toldAheadOfOpening(t *testing.T, a proveAsked) toOpen {
	t.Helper()
	z := plainVector(a.s.Cols, a.publics, a.privates)
	private := elements(z[len(z)/2:]...)
	p := impl.Proof{Root: committed(t, private, a.set.Rate)}
	s, drawn := someDraws(t, taken(t, a.source, a.plainText(), p.Root), a.s.Rows)
	tables := [][]impl.Ext{eqOf(t, drawn)}
	for _, list := range [][]impl.Entry{a.s.A, a.s.B, a.s.C} {
		tables = append(tables, elements(mulMatrix(t, list, a.s.Rows, z)...))
	}
	gates := sumProved(t, impl.SuGate, tables, s)
	p.Gates, p.VA, p.VB, p.VC = gates.rounds, gates.values[1], gates.values[2], gates.values[3]
	s, r := someDraws(t, takenExts(t, gates.end, p.VA, p.VB, p.VC), 3)
	wires := sumProved(t, impl.SuProduct, [][]impl.Ext{plainBound(a.s, gates.point, r...), elements(z...)}, s)
	point := wires.point[:a.s.Cols-1]
	p.Wires, p.VW = wires.rounds, tableAt(t, private, point)
	return toOpen{p, private, point, takenExts(t, wires.end, p.VW)}
}

func plainProof(t *testing.T, a proveAsked) impl.Proof {
	t.Helper()
	w := toldAheadOfOpening(t, a)
	w.p.Open, _ = openedTable(t, w.private, w.point, a.set, w.source)
	return w.p
}

func sameProof(p, q impl.Proof) bool {
	return p.Root == q.Root && sameLists(p.Gates, q.Gates) && p.VA == q.VA && p.VB == q.VB && p.VC == q.VC &&
		sameLists(p.Wires, q.Wires) && p.VW == q.VW && sameOpening(p.Open, q.Open)
}

func proved(t *testing.T, a proveAsked) impl.Proof {
	t.Helper()
	p, code := impl.Prove(a.s, a.set, a.publics, a.privates, a.source)
	if code != impl.OK {
		t.Fatal("Prove", a.s, a.set, a.publics, a.privates, a.source.At, a.source.Count, code)
	}
	return p
}

// asksCode wants a code of Prove, and no proof.
func (a proveAsked) asksCode(t *testing.T, want int, what ...any) {
	t.Helper()
	if p, code := impl.Prove(a.s, a.set, a.publics, a.privates, a.source); code != want || !sameProof(p, impl.Proof{}) {
		t.Error("Prove", what, "has", code, "is to have", want)
	}
}

// spreadBy is a system of A and B that the vector satisfies; C's entries stand in columns all over it.
func spreadBy(rows, cols int, a, b []impl.Entry, z []int) impl.System {
	s := impl.System{Rows: rows, Cols: cols, A: a, B: b}
	left, right := plainRows(a, 1<<rows, z), plainRows(b, 1<<rows, z)
	for row := range left {
		col := (5*row + 3) % len(z)
		if z[col] == 0 {
			col = 0
		}
		if value := mul(mul(left[row], right[row]), must(impl.Inverse(z[col]))); value != 0 {
			s.C = append(s.C, impl.Entry{Row: row, Col: col, Value: value})
		}
	}
	return s
}

// someAsked are right systems of a size, with what satisfies them: of privates none, some, and just half the columns;
// of publics none, some, and all that there may be; of matrices with entries and without.
func someAsked(rows, cols int) []proveAsked {
	half := 1 << (cols - 1)
	settings, sources := someSettings(), proofSources()
	matrices := someMatrices(1<<rows, 1<<cols)
	var list []proveAsked
	for i, publics := range []int{0, 1, half / 2, half - 1} {
		for j, privates := range []int{0, 1, half - 1, half} {
			for k := range 4 {
				n := len(list) + rows + 5*cols
				a := proveAsked{set: settings[n%len(settings)], publics: numbersOf(publics, n), privates: numbersOf(privates, 2*n), source: sources[n%len(sources)]}
				z := plainVector(cols, a.publics, a.privates)
				one, two := matrices[(n+i+3*j)%len(matrices)], matrices[(3*n+7*k)%len(matrices)]
				a.s = spreadBy(rows, cols, one, two, z)
				a.s.Publics = publics
				list = append(list, a)
			}
		}
	}
	return list
}

// fullAsked has as many numbers and entries as there may be, but in C.
func fullAsked(rows, cols int, set impl.Setting, source impl.Source) proveAsked {
	half := 1 << (cols - 1)
	a := proveAsked{set: set, publics: numbersOf(half-1, 25), privates: numbersOf(half, 40), source: source}
	most := min(1<<(rows+cols), 200)
	a.s = spreadBy(rows, cols, entriesIn(1<<rows, 1<<cols, most), entriesIn(1<<rows, 1<<cols, most, 3, prime-1, 1), plainVector(cols, a.publics, a.privates))
	a.s.Publics = half - 1
	return a
}

// Each matrix by itself, and none: of these, any numbers satisfy, but C's where these are not 0.
func oneMatrixAlone(rows, cols int) []proveAsked {
	full := entriesIn(1<<rows, 1<<cols, min(1<<(rows+cols), 200))
	set, sources := impl.Setting{Rate: 2, Queries: 2, Grind: 1}, proofSources()
	var list []proveAsked
	for i, s := range []impl.System{{}, {A: full}, {B: full}, {C: []impl.Entry{{Row: 0, Col: 1, Value: 4}, {Row: 1, Col: 1<<cols - 1, Value: 9}}}} {
		s.Rows, s.Cols = rows, cols
		list = append(list, proveAsked{s: s, set: set, privates: numbersOf(1<<(cols-1)-1, 9*i), source: sources[(rows+cols+i)%len(sources)]})
	}
	return list
}

func eachAsked(does func(a proveAsked)) {
	eachSize(func(rows, cols int) {
		for _, a := range append(someAsked(rows, cols), oneMatrixAlone(rows, cols)...) {
			does(a)
		}
	})
}

func TestProvedPartByPart(t *testing.T) {
	eachAsked(func(a proveAsked) {
		if got := proved(t, a); !sameProof(got, plainProof(t, a)) {
			t.Fatal(a.s.Rows, a.s.Cols, a.set, a.publics, a.privates, a.source.At, a.source.Count, len(a.source.Script))
		}
	})
}

func TestProofsAreOfTheirLengths(t *testing.T) {
	eachAsked(func(a proveAsked) {
		p := proved(t, a)
		if len(p.Root) != 32 || len(p.Gates) != a.s.Rows || len(p.Wires) != a.s.Cols || !impl.OpeningOK(p.Open, a.s.Cols-1, a.set) {
			t.Fatal(a.s.Rows, a.s.Cols, a.set, len(p.Root), len(p.Gates), len(p.Wires))
		}
		for _, round := range p.Gates {
			if len(round) != 4 {
				t.Fatal("a round of the gates has", len(round))
			}
		}
		for _, round := range p.Wires {
			if len(round) != 3 {
				t.Fatal("a round of the wires has", len(round))
			}
		}
	})
}

// The theorem of completeness: Verify and the calls of chapters 9 and 10 have nothing to refuse.
func TestWhatIsProvedHoldsWhoeverDraws(t *testing.T) {
	eachAsked(func(a proveAsked) { shownProof{a, proved(t, a)}.asks(t, accepted) })
	a := fullAsked(2, 3, impl.Setting{}, impl.Source{})
	for rate := 1; rate <= impl.MaxRate; rate++ {
		for queries := 1; queries <= impl.MaxQueries; queries++ {
			for j, source := range proofSources() {
				a.set, a.source = impl.Setting{Rate: rate, Queries: queries, Grind: (rate + queries + j) % 5}, source
				shownProof{a, proved(t, a)}.asks(t, accepted, "source", j)
			}
		}
	}
	a.set = impl.Setting{Rate: 1, Queries: 1, Grind: impl.MaxGrind}
	shownProof{a, proved(t, a)}.asks(t, accepted)
}

// A proof is one of what it was made of alone.
func TestProofsAreOfWhatTheyProve(t *testing.T) {
	a := fullAsked(2, 3, impl.Setting{Rate: 2, Queries: 4, Grind: 2}, impl.Source{State: hashed("proofs")})
	p := proved(t, a)
	for i, does := range []func(a *proveAsked){
		func(a *proveAsked) { a.publics = append([]int{add(a.publics[0], 1)}, a.publics[1:]...) },
		func(a *proveAsked) { a.source.State = hashed("others") },
		func(a *proveAsked) { a.set.Grind = 1 },
		func(a *proveAsked) { a.s = failing(a.s, 3) },
	} {
		b := a
		does(&b)
		if plainRefusal(t, b, p) == accepted {
			t.Error("case", i, "takes another one's proof")
		}
	}
}

// What is left out of the private half is noughts.
func TestFewerPrivatesAreNoughts(t *testing.T) {
	eachSize(func(rows, cols int) {
		half := 1 << (cols - 1)
		for privates := range half {
			a := proveAsked{set: impl.Setting{Rate: 1, Queries: 3, Grind: 1}, privates: numbersOf(privates, 4), source: impl.Source{State: hashed("proofs")}}
			z := plainVector(cols, nil, a.privates)
			a.s = spreadBy(rows, cols, entriesIn(1<<rows, 1<<cols, 6), entriesIn(1<<rows, 1<<cols, 5), z)
			p := proved(t, a)
			a.privates = z[half:]
			if !sameProof(p, proved(t, a)) {
				t.Fatal(rows, cols, privates)
			}
		}
	})
}

// The root is that of the private half; nothing public is in it, and nothing private is told but by it and what is drawn.
func TestRootIsOfThePrivateHalf(t *testing.T) {
	private := elements(7, 8, 9, 0)
	for rate := 1; rate <= impl.MaxRate; rate++ {
		for _, publics := range [][]int{nil, {5}, {7, 8, 9}} {
			a := proveAsked{
				s:   impl.System{Rows: 1, Cols: 3, Publics: len(publics), A: []impl.Entry{{Col: 4, Value: 1}}},
				set: impl.Setting{Rate: rate, Queries: 1}, publics: publics, privates: []int{7, 8, 9}, source: impl.Source{State: hashed("proofs")},
			}
			if p := proved(t, a); p.Root != committed(t, private, rate) {
				t.Error(rate, publics)
			}
		}
	}
}

// VA, VB, VC are the three products' tables at the point that was drawn in the rounds of the gates.
func TestProductsAreTold(t *testing.T) {
	script := mixedExts(64)
	eachSize(func(rows, cols int) {
		a := fullAsked(rows, cols, impl.Setting{Rate: 1, Queries: 1}, impl.Source{State: hashed("proofs"), Script: script})
		p := proved(t, a)
		z, rx, ry := plainVector(cols, a.publics, a.privates), script[rows:2*rows], script[2*rows+3:][:cols]
		for i, list := range [][]impl.Entry{a.s.A, a.s.B, a.s.C} {
			if want := tableAt(t, elements(plainRows(list, 1<<rows, z)...), rx); []impl.Ext{p.VA, p.VB, p.VC}[i] != want {
				t.Fatal(rows, cols, "matrix", i)
			}
		}
		if p.VW != tableAt(t, elements(z[len(z)/2:]...), ry[:cols-1]) {
			t.Fatal(rows, cols, "VW")
		}
	})
}

func TestWhatDoesNotSatisfyIsNotProved(t *testing.T) {
	eachSize(func(rows, cols int) {
		n := 1 << rows
		for i, a := range someAsked(rows, cols) {
			a.source = proofSources()[i%len(proofSources())]
			right := a.s
			for row := range n {
				a.s = failing(right, row)
				a.asksCode(t, impl.ErrUnsatisfied, rows, cols, "row", row)
			}
			a.s = failing(right, 0, n-1)
			a.asksCode(t, impl.ErrUnsatisfied, rows, cols, "two rows")
		}
	})
}

// Rows that are not satisfied by as much as takes each other off; scripts that draw no other row than one that is satisfied.
func TestRowsThatTakeEachOtherOff(t *testing.T) {
	s := impl.System{Rows: 2, Cols: 2, C: []impl.Entry{{Row: 1, Col: 0, Value: 5}, {Row: 2, Col: 0, Value: prime - 5}}}
	for _, script := range [][]impl.Ext{nil, {ext0}, {ext1}, {extX}, mixedExts(9)} {
		a := proveAsked{s: s, set: impl.Setting{Rate: 1, Queries: 1}, privates: []int{1, 2}, source: impl.Source{State: hashed("proofs"), Script: script}}
		a.asksCode(t, impl.ErrUnsatisfied, len(script))
		a.s.C = nil
		proved(t, a)
	}
}

func TestOtherNumbersAreNotProved(t *testing.T) {
	// Row by row a number is the product of two others; column 15 is in no row.
	s := impl.System{Rows: 2, Cols: 4, Publics: 3}
	for row := range 3 {
		s.A = append(s.A, impl.Entry{Row: row, Col: 1 + row, Value: 1})
		s.B = append(s.B, impl.Entry{Row: row, Col: 8 + row, Value: 2})
		s.C = append(s.C, impl.Entry{Row: row, Col: 12 + row, Value: 1})
	}
	a := proveAsked{
		s: s, set: impl.Setting{Rate: 1, Queries: 2, Grind: 1}, publics: []int{3, 5, 7}, privates: []int{11, 13, 17, 0, 66, 130, 238, 99},
		source: impl.Source{State: hashed("proofs")},
	}
	proved(t, a)
	for at := range a.publics {
		b := a
		b.publics = slices.Clone(a.publics)
		b.publics[at]++
		b.asksCode(t, impl.ErrUnsatisfied, "public number", at)
	}
	for at := range a.privates {
		b := a
		b.privates = slices.Clone(a.privates)
		b.privates[at]++
		if at == 3 || at == 7 {
			proved(t, b)
		} else {
			b.asksCode(t, impl.ErrUnsatisfied, "private number", at)
		}
	}
	for _, privates := range [][]int{{11}, a.privates[:3], a.privates[:6]} {
		b := a
		b.privates = privates
		b.asksCode(t, impl.ErrUnsatisfied, "privates", privates)
	}
	a.privates = a.privates[:7]
	proved(t, a)
	a.privates = nil
	proved(t, a)
}

// asksCircuit wants a circuit's proof to be that of its system, or none where something that must be is not.
func asksCircuit(t *testing.T, r run, set impl.Setting, source impl.Source) {
	t.Helper()
	p, code := impl.ProveCircuit(r.c, set, r.publics, r.inputs, source)
	if !r.holds {
		if code != impl.ErrUnsatisfied || !sameProof(p, impl.Proof{}) {
			t.Fatal("ProveCircuit", r, set, code)
		}
		return
	}
	publics, privates := plainWitness(r.c, r.values)
	a := proveAsked{plainSystem(r.c), set, publics, privates, source}
	if code != impl.OK || !sameProof(p, plainProof(t, a)) || !sameProof(p, proved(t, a)) {
		t.Fatal("ProveCircuit", r, set, code)
	}
	shownProof{a, p}.asks(t, accepted, r)
	if ok, code := impl.VerifyCircuit(r.c, set, r.publics, p, source); !ok || code != impl.OK {
		t.Fatal("VerifyCircuit", r, set, ok, code)
	}
}

func TestCircuitsAreProved(t *testing.T) {
	settings, sources := someSettings(), proofSources()
	d := draws(1213)
	for i, c := range slices.Concat(allCircuits(1), allCircuits(2), mixedCircuits(), longestCircuits()) {
		publics := drawnNumbers(plainCount(c, impl.GaPublic), &d)
		asksCircuit(t, runOf(c, publics, drawnNumbers(plainCount(c, impl.GaInput), &d)), settings[i%len(settings)], sources[i%len(sources)])
		// Of ones alone most that must be is.
		ones := runOf(c, slices.Repeat([]int{1}, plainCount(c, impl.GaPublic)), slices.Repeat([]int{1}, plainCount(c, impl.GaInput)))
		asksCircuit(t, ones, settings[(i+3)%len(settings)], sources[(3*i+5)%len(sources)])
	}
}

func TestCircuitsProvedByHand(t *testing.T) {
	root := circuitOf(input, public, mulGate(0, 0), likeGate(2, 1))
	bits := circuitOf(input, bitGate(0), input, bitGate(2), sumGate(0, 2), public, likeGate(4, 5))
	for i, c := range []struct {
		c               impl.Circuit
		publics, inputs []int
		holds           bool
	}{
		{root, []int{49}, []int{7}, true}, {root, []int{49}, []int{prime - 7}, true}, {root, []int{49}, []int{8}, false}, {root, []int{48}, []int{7}, false},
		{bits, []int{2}, []int{1, 1}, true}, {bits, []int{1}, []int{0, 1}, true}, {bits, []int{0}, []int{0, 0}, true},
		{bits, []int{2}, []int{2, 0}, false}, {bits, []int{2}, []int{0, 2}, false}, {bits, []int{1}, []int{1, 1}, false},
		{circuitOf(constant(7)), nil, nil, true}, {circuitOf(constant(0)), nil, nil, true}, {circuitOf(public), []int{5}, nil, true}, {circuitOf(input), nil, []int{5}, true},
		{circuitOf(constant(2), bitGate(0)), nil, nil, false}, {circuitOf(constant(1), bitGate(0)), nil, nil, true},
		{circuitOf(constant(1), constant(2), likeGate(0, 1)), nil, nil, false},
	} {
		r := runOf(c.c, c.publics, c.inputs)
		if r.holds != c.holds {
			t.Fatal("case", i)
		}
		for _, source := range proofSources() {
			asksCircuit(t, r, impl.Setting{Rate: 1, Queries: 2, Grind: 1}, source)
		}
	}
}
