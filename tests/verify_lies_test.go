package tests

import (
	"testing"

	"loop.example/g00348/impl"
)

// Promise 14, of proofs of what does not satisfy, made to fit step by step: each step further the next one tells.

// What a liar makes fit, one behind the other; all that is ahead of it is made to fit, too.
const (
	fitsNothing = iota
	fitsGates
	fitsProducts
	fitsWires
	fitsPrivate
	fitsOpening
	fitsLast
	fitsNonce
)

// lieCodes stand in the order of what is made to fit.
var lieCodes = []refusal{
	{"gates", impl.ErrSum}, {"gates", impl.ErrClaim}, {"wires", impl.ErrSum}, {"wires", impl.ErrClaim},
	{"opening", impl.ErrSum}, {"opening", impl.ErrClaim}, {"opening", impl.ErrGrind}, {"opening", impl.ErrLast},
}

// liar has what the verifier holds the next round against, and the source, as a proof goes on.
type liar struct {
	fits  int
	claim impl.Ext
	s     impl.Source
}

// tell is what is drawn behind a round, which is made to sum to its claim if the liar goes as far as that.
func (l *liar) tell(t *testing.T, round []impl.Ext, step int) impl.Ext {
	t.Helper()
	if l.fits >= step {
		round[0] = extSub(l.claim, round[1])
	}
	after, r := someDraws(t, takenExts(t, l.s, round...), 1)
	l.s, l.claim = after, plainLine(round, r[0])
	return r[0]
}

func (l *liar) tellSum(t *testing.T, kind int, tables [][]impl.Ext, step int) (rounds [][]impl.Ext, point []impl.Ext, values []impl.Ext) {
	t.Helper()
	for len(tables[0]) > 1 {
		round := roundOf(t, kind, tables)
		r := l.tell(t, round, step)
		rounds, point, tables = append(rounds, round), append(point, r), allFolded(t, tables, r)
	}
	return rounds, point, valuesAt(tables, 0)
}

func over(a, b impl.Ext) impl.Ext { return extMul(a, mustExt(impl.ExtInverse(b))) }

// open tells true words, so that in the end a liar's Last is not what they fold to.
func (l *liar) open(t *testing.T, private, point []impl.Ext, set impl.Setting) impl.Opening {
	t.Helper()
	word, tables := wordOf(t, coefsOf(t, private), set.Rate), [][]impl.Ext{private, eqOf(t, point)}
	w := showing{end: l.s}
	for range point {
		w.tell(t, word)
		round := roundOf(t, impl.SuProduct, tables)
		l.s = w.end
		r := l.tell(t, round, fitsOpening)
		w.o.Rounds, w.drawn, w.end = append(w.o.Rounds, round), append(w.drawn, r), l.s
		tables, word = allFolded(t, tables, r), foldedWord(t, word, r)
	}
	w.o.Last = tables[0][0]
	if l.fits >= fitsLast {
		w.o.Last = over(l.claim, mustExt(impl.EqAt(w.drawn, point)))
	}
	w.end = takenExts(t, w.end, w.o.Last)
	ground := w.end
	w.ask(t, set)
	if l.fits < fitsNonce {
		w.o.Nonce = noNonce(ground, set.Grind)
	}
	return w.o
}

func lied(t *testing.T, a proveAsked, fits int) impl.Proof {
	t.Helper()
	l := liar{fits: fits}
	z := plainVector(a.s.Cols, a.publics, a.privates)
	private := elements(z[len(z)/2:]...)
	p := impl.Proof{Root: committed(t, private, a.set.Rate)}
	s, drawn := someDraws(t, taken(t, a.source, a.plainText(), p.Root), a.s.Rows)
	tables := [][]impl.Ext{eqOf(t, drawn)}
	for _, list := range [][]impl.Entry{a.s.A, a.s.B, a.s.C} {
		tables = append(tables, elements(plainRows(list, 1<<a.s.Rows, z)...))
	}
	l.s = s
	rounds, rx, values := l.tellSum(t, impl.SuGate, tables, fitsGates)
	p.Gates, p.VA, p.VB, p.VC = rounds, values[1], values[2], values[3]
	if fits >= fitsProducts {
		p.VC = extSub(extMul(p.VA, p.VB), over(l.claim, mustExt(impl.EqAt(drawn, rx))))
	}
	after, r := someDraws(t, takenExts(t, l.s, p.VA, p.VB, p.VC), 3)
	l.s, l.claim = after, mustExt(impl.ExtDot(r, []impl.Ext{p.VA, p.VB, p.VC}))
	bound := plainBound(a.s, rx, r...)
	rounds, ry, _ := l.tellSum(t, impl.SuProduct, [][]impl.Ext{bound, elements(z...)}, fitsWires)
	point, side := ry[:a.s.Cols-1], ry[a.s.Cols-1]
	p.Wires, p.VW = rounds, tableAt(t, private, point)
	if fits >= fitsPrivate {
		value := over(l.claim, tableAt(t, bound, ry))
		p.VW = over(extSub(value, extMul(plainPublicAt(t, a.s.Cols, a.publics, point), extSub(ext1, side))), side)
	}
	l.s, l.claim = takenExts(t, l.s, p.VW), p.VW
	p.Open = l.open(t, private, point, a.set)
	return p
}

func TestLiesAreToldAsFarAsTheyFit(t *testing.T) {
	settings := []impl.Setting{{Rate: 1, Queries: 1, Grind: 1}, {Rate: 2, Queries: 3, Grind: 4}, {Rate: 3, Queries: 8, Grind: 2}}
	eachSize(func(rows, cols int) {
		for i, source := range cheatSources() {
			for _, row := range []int{0, 1<<rows - 1} {
				a := fullAsked(rows, cols, settings[(rows+cols+row+i)%3], source)
				a.s = failing(a.s, row)
				for fits, want := range lieCodes {
					shownProof{a, lied(t, a, fits)}.asks(t, want, "row", row, "source", i, "fits", fits)
				}
			}
		}
	})
}

// Of what satisfies there is nothing to make fit: a liar's proof is the prover's.
func TestWhoHasNothingToLieIsAccepted(t *testing.T) {
	eachSize(func(rows, cols int) {
		for _, source := range cheatSources() {
			a := fullAsked(rows, cols, impl.Setting{Rate: 2, Queries: 2, Grind: 2}, source)
			p := lied(t, a, fitsNonce)
			if !sameProof(p, proved(t, a)) {
				t.Fatal(rows, cols, "is another proof")
			}
			shownProof{a, p}.asks(t, accepted)
		}
	})
}
