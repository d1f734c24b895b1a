package tests

import (
	"slices"
	"testing"

	"loop.example/g00348/impl"
)

// Promise 14, of proofs that are accepted, of what is public, and of proofs' lengths. What is refused is tested in verify_cheats_test.go and verify_faults_test.go.

// refusal is at which step a proof of the right lengths is refused, and by which code.
type refusal struct {
	where string
	code  int
}

var accepted = refusal{}

// plainRefusal is what chapter 14 refuses a proof of the right lengths for, by the calls that it names, one behind the other.
func plainRefusal(t *testing.T, a proveAsked, p impl.Proof) refusal {
	t.Helper()
	s, drawn := someDraws(t, taken(t, a.source, a.plainText(), p.Root), a.s.Rows)
	rx, last, s, code := impl.SumVerify(impl.SuGate, ext0, p.Gates, a.s.Rows, s)
	if code != impl.OK {
		return refusal{"gates", code}
	}
	if mustExt(impl.Combine(impl.SuGate, []impl.Ext{mustExt(impl.EqAt(drawn, rx)), p.VA, p.VB, p.VC})) != last {
		return refusal{"gates", impl.ErrClaim}
	}
	s, r := someDraws(t, takenExts(t, s, p.VA, p.VB, p.VC), 3)
	claim := mustExt(impl.ExtDot(r, []impl.Ext{p.VA, p.VB, p.VC}))
	ry, last, s, code := impl.SumVerify(impl.SuProduct, claim, p.Wires, a.s.Cols, s)
	if code != impl.OK {
		return refusal{"wires", code}
	}
	vars := a.s.Cols - 1
	point, side := ry[:vars], ry[vars]
	value := extAdd(extMul(plainPublicAt(t, a.s.Cols, a.publics, point), extSub(ext1, side)), extMul(p.VW, side))
	if extMul(tableAt(t, plainBound(a.s, rx, r...), ry), value) != last {
		return refusal{"wires", impl.ErrClaim}
	}
	if _, code := impl.CheckOpening(p.Root, vars, point, p.VW, a.set, p.Open, takenExts(t, s, p.VW)); code != impl.OK {
		return refusal{"opening", code}
	}
	return accepted
}

// plainPublicAt is a 1, what is public, and noughts, as a table.
func plainPublicAt(t *testing.T, cols int, publics []int, point []impl.Ext) impl.Ext {
	t.Helper()
	return tableAt(t, elements(plainVector(cols, publics, nil)[:1<<(cols-1)]...), point)
}

// shownProof is what Verify is handed, and the privates of whoever proved it.
type shownProof struct {
	proveAsked
	p impl.Proof
}

func (a shownProof) asksCode(t *testing.T, want int, what ...any) {
	t.Helper()
	if ok, code := impl.Verify(a.s, a.set, a.publics, a.p, a.source); ok != (want == impl.OK) || code != want {
		t.Fatal("Verify of", a.s.Rows, a.s.Cols, a.set, what, "has", ok, code, "is to have", want)
	}
}

// asks wants that chapter 14's calls come to a refusal, and Verify to its code.
func (a shownProof) asks(t *testing.T, want refusal, what ...any) {
	t.Helper()
	if got := plainRefusal(t, a.proveAsked, a.p); got != want {
		t.Fatal("the calls of chapter 14 of", a.s.Rows, a.s.Cols, a.set, what, "have", got, "are to have", want)
	}
	a.asksCode(t, want.code, what...)
}

func shownOf(t *testing.T, a proveAsked) shownProof {
	t.Helper()
	return shownProof{a, proved(t, a)}
}

// The least and the greatest systems, of as many public numbers as there may be and of none, in each setting, whoever draws.
func TestProofsOfTheEdgesAreAccepted(t *testing.T) {
	for _, rows := range []int{1, 5} {
		for _, cols := range []int{2, 5} {
			for i, set := range someSettings() {
				for j, source := range proofSources() {
					full := fullAsked(rows, cols, set, source)
					shownOf(t, full).asks(t, accepted, "source", j)
					none := oneMatrixAlone(rows, cols)[(i+j)%4]
					none.set, none.source = set, source
					shownOf(t, none).asks(t, accepted, "no public numbers, source", j)
				}
			}
		}
	}
}

// A nonce is asked for of the bits that the setting has, and no others.
func TestProofsOfAllGrindsAreAccepted(t *testing.T) {
	for grind := 0; grind <= impl.MaxGrind; grind++ {
		for _, source := range cheatSources() {
			shownOf(t, fullAsked(1, 2, impl.Setting{Rate: 1, Queries: 1, Grind: grind}, source)).asks(t, accepted)
		}
	}
}

// Just 200 draws left are enough for the longest proof there is, of either sort of draws.
func TestJustEnoughDrawsAreLeft(t *testing.T) {
	set := impl.Setting{Rate: 3, Queries: 8, Grind: 1}
	for _, script := range [][]impl.Ext{nil, mixedExts(64)} {
		for _, n := range [][2]int{{allDraws - 200, 0}, {0, allDraws - 200}, {allDraws - 200, allDraws - 200}} {
			source := impl.Source{State: hashed("proofs"), Script: script, At: n[0], Count: n[1]}
			a := shownOf(t, fullAsked(5, 5, set, source))
			a.asks(t, accepted)
			if n[0] > 0 {
				a.source.At++
			} else {
				a.source.Count++
			}
			a.asksCode(t, impl.ErrMany, n)
		}
	}
}

// What a circuit's proof is accepted for is its system with the public numbers; the inputs are not asked for.
func TestCircuitsAreVerifiedByTheirSystems(t *testing.T) {
	d := draws(77)
	settings, sources := someSettings(), proofSources()
	for i, c := range slices.Concat(allCircuits(1), mixedCircuits(), longestCircuits()) {
		ones := func(op int) []int { return slices.Repeat([]int{1}, plainCount(c, op)) }
		set, source := settings[i%len(settings)], sources[i%len(sources)]
		p, code := impl.ProveCircuit(c, set, ones(impl.GaPublic), ones(impl.GaInput), source)
		if code == impl.ErrUnsatisfied {
			continue
		}
		for _, publics := range [][]int{ones(impl.GaPublic), drawnNumbers(plainCount(c, impl.GaPublic), &d)} {
			a := proveAsked{s: plainSystem(c), set: set, publics: publics, source: source}
			want := plainRefusal(t, a, p)
			shownProof{a, p}.asks(t, want, "circuit", i)
			if ok, code := impl.VerifyCircuit(c, set, publics, p, source); ok != (want == accepted) || code != want.code {
				t.Fatal("VerifyCircuit", i, publics, ok, code, want)
			}
		}
	}
}

func publicAt(t *testing.T, s impl.System, publics []int, point []impl.Ext) impl.Ext {
	t.Helper()
	value, code := impl.PublicAt(s, publics, point)
	if code != impl.OK {
		t.Fatal("PublicAt", s.Cols, publics, point, code)
	}
	return value
}

func TestPublicAtIsTheFirstHalfAsATable(t *testing.T) {
	eachSize(func(rows, cols int) {
		half := 1 << (cols - 1)
		for publics := range half {
			s := impl.System{Rows: rows, Cols: cols, Publics: publics, A: entriesIn(1<<rows, 1<<cols, 5)}
			for from := range 5 {
				list := numbersOf(publics, 9*from+rows)
				table := elements(vectorOf(t, s, list, numbersOf(half, from))[:half]...)
				for _, point := range somePoints(cols - 1) {
					if got := publicAt(t, s, list, point); got != tableAt(t, table, point) || got != plainTableAt(table, point) {
						t.Fatal(rows, cols, list, point, got)
					}
				}
			}
		}
	})
}

// At noughts and ones it is the vector's number there: the 1, what is public, noughts.
func TestPublicAtPlaces(t *testing.T) {
	for cols := 2; cols <= 5; cols++ {
		half := 1 << (cols - 1)
		for publics := range half {
			list := numbersOf(publics, 30)
			s := impl.System{Rows: 1 + publics%5, Cols: cols, Publics: publics}
			for place := range half {
				want := ext0
				if place == 0 {
					want = ext1
				} else if place <= publics {
					want = impl.Ext{A: list[place-1]}
				}
				if got := publicAt(t, s, list, placePoint(place, cols-1)); got != want {
					t.Fatal(cols, list, "at place", place, got, want)
				}
			}
		}
	}
}

func TestPublicAtByHand(t *testing.T) {
	for i, c := range []struct {
		cols    int
		publics []int
		point   []impl.Ext
		want    impl.Ext
	}{
		{2, nil, []impl.Ext{extX}, impl.Ext{A: 1, B: prime - 1}},
		{2, []int{5}, []impl.Ext{extX}, impl.Ext{A: 1, B: 4}},
		{2, []int{0}, []impl.Ext{{A: 3}}, impl.Ext{A: prime - 2}},
		{2, []int{prime - 1}, []impl.Ext{{A: prime - 1, B: 2}}, impl.Ext{A: 3, B: prime - 4}},
		// 1 less x, squared, is 4 less 2 x.
		{3, nil, []impl.Ext{extX, extX}, impl.Ext{A: 4, B: prime - 2}},
		{3, []int{0, 1, 0}, []impl.Ext{{A: 2}, {A: 7}}, impl.Ext{A: prime - 1}},
		{3, []int{0, 0, 1}, []impl.Ext{{A: 2}, extX}, impl.Ext{A: prime - 1, B: 3}},
		{3, []int{1, 1, 1}, mixedExts(2), ext1},
		{5, slices.Repeat([]int{1}, 15), mixedExts(4), ext1},
	} {
		if got := publicAt(t, impl.System{Rows: 1, Cols: c.cols, Publics: len(c.publics)}, c.publics, c.point); got != c.want {
			t.Error("case", i, got, c.want)
		}
	}
}

// madeUpProof is one of the right lengths, of edges and mixed bytes, which proves nothing.
func madeUpProof(s impl.System, set impl.Setting) impl.Proof {
	edges, d := someExts(20), draws(uint64(s.Rows*8+s.Cols))
	next := func(n int) []impl.Ext {
		list := make([]impl.Ext, n)
		for i := range list {
			list[i] = edges[d.next()%len(edges)]
		}
		return list
	}
	values := next(4)
	p := impl.Proof{Root: string(mixedBytes(32)), VA: values[0], VB: values[1], VC: values[2], VW: values[3], Open: madeUp(s.Cols-1, set)}
	for range s.Rows {
		p.Gates = append(p.Gates, next(4))
	}
	for range s.Cols {
		p.Wires = append(p.Wires, next(3))
	}
	return p
}

func TestProofOfItsLengths(t *testing.T) {
	for _, set := range someSettings() {
		eachSize(func(rows, cols int) {
			s := impl.System{Rows: rows, Cols: cols}
			if !impl.ProofOK(madeUpProof(s, set), s, set) {
				t.Error(rows, cols, set, "is not right")
			}
		})
	}
	eachAsked(func(a proveAsked) {
		if !impl.ProofOK(proved(t, a), a.s, a.set) {
			t.Fatal(a.s.Rows, a.s.Cols, a.set, "what is proved is not right")
		}
	})
}

// Lengths hang on Rows, Cols, Rate and Queries alone.
func TestProofsLengthsHangOnFourNumbers(t *testing.T) {
	for _, rows := range []int{1, 3, 5} {
		for _, cols := range []int{2, 4, 5} {
			p := madeUpProof(impl.System{Rows: rows, Cols: cols}, rightSetting)
			eachSize(func(otherRows, otherCols int) {
				for rate := 1; rate <= impl.MaxRate; rate++ {
					for queries := 1; queries <= impl.MaxQueries; queries++ {
						s := impl.System{Rows: otherRows, Cols: otherCols, Publics: queries % 2, A: entriesIn(1<<otherRows, 1<<otherCols, queries)}
						want := otherRows == rows && otherCols == cols && rate == rightSetting.Rate && queries == rightSetting.Queries
						if set := (impl.Setting{Rate: rate, Queries: queries, Grind: rate * queries / 2}); impl.ProofOK(p, s, set) != want {
							t.Error(rows, cols, "for", otherRows, otherCols, set, "is right:", !want)
						}
					}
				}
			})
		}
	}
}
