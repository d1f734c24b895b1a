package tests

import (
	"slices"
	"testing"

	"loop.example/g00348/impl"
)

// Promise 9.

// sumKind is a row of chapter 9: how many tables a kind has, of which degree it is.
type sumKind struct{ kind, tables, degree int }

var sumKinds = []sumKind{{impl.SuProduct, 2, 2}, {impl.SuGate, 4, 3}}

// plainCombine is chapter 9's words.
func plainCombine(kind int, v []impl.Ext) impl.Ext {
	if kind == impl.SuProduct {
		return extMul(v[0], v[1])
	}
	return extMul(v[0], extSub(extMul(v[1], v[2]), v[3]))
}

// valuesAt are what the tables have at a place.
func valuesAt(tables [][]impl.Ext, place int) []impl.Ext {
	var values []impl.Ext
	for _, table := range tables {
		values = append(values, table[place])
	}
	return values
}

func plainSum(kind int, tables [][]impl.Ext) impl.Ext {
	sum := ext0
	for place := range tables[0] {
		sum = extAdd(sum, plainCombine(kind, valuesAt(tables, place)))
	}
	return sum
}

// someSums are tables of so many variables for a kind: alike ones, and such as stand in another order.
func someSums(k sumKind, vars int) [][][]impl.Ext {
	var sums [][][]impl.Ext
	tables := someTables(vars)
	for step := range 4 {
		for i := range tables {
			var sum [][]impl.Ext
			for j := range k.tables {
				sum = append(sum, tables[(i+j*step)%len(tables)])
			}
			sums = append(sums, sum)
		}
	}
	return sums
}

// mixedSum is one of them, of elements that look mixed.
func mixedSum(k sumKind, vars int) [][]impl.Ext {
	var sum [][]impl.Ext
	for j := range k.tables {
		sum = append(sum, mixedExts(1<<vars + j)[j:])
	}
	return sum
}

// sumSources are sponges and scripts, new ones, used ones, and such as have just 6 draws left.
func sumSources() []impl.Source {
	state := hashed("sums")
	list := []impl.Source{
		{State: state},
		{State: hashed("others")},
		{State: state, Count: 77},
		{State: state, Script: []impl.Ext{ext0}},
		{State: state, Script: []impl.Ext{ext1}},
		{State: state, Script: []impl.Ext{extX}},
		{State: state, Script: mixedExts(4), At: 3, Count: 5},
		{State: state, Script: mixedExts(64), At: 61},
	}
	for _, script := range [][]impl.Ext{nil, mixedExts(5)} {
		list = append(list,
			impl.Source{State: state, Script: script, At: allDraws - 6},
			impl.Source{State: state, Script: script, Count: allDraws - 6},
			impl.Source{State: state, Script: script, At: allDraws - 6, Count: allDraws - 6},
		)
	}
	return list
}

func sumOf(t *testing.T, kind int, tables [][]impl.Ext) impl.Ext {
	t.Helper()
	sum, code := impl.SumOf(kind, tables)
	if code != impl.OK {
		t.Fatal("SumOf", kind, len(tables[0]), code)
	}
	return sum
}

func roundOf(t *testing.T, kind int, tables [][]impl.Ext) []impl.Ext {
	t.Helper()
	round, code := impl.RoundOf(kind, tables)
	if code != impl.OK {
		t.Fatal("RoundOf", kind, len(tables[0]), code)
	}
	return round
}

func allFolded(t *testing.T, tables [][]impl.Ext, r impl.Ext) [][]impl.Ext {
	t.Helper()
	var list [][]impl.Ext
	for _, table := range tables {
		list = append(list, folded(t, table, r))
	}
	return list
}

// sumProof is what SumProve answers.
type sumProof struct {
	rounds        [][]impl.Ext
	point, values []impl.Ext
	end           impl.Source
}

func sumProved(t *testing.T, kind int, tables [][]impl.Ext, s impl.Source) sumProof {
	t.Helper()
	rounds, point, values, end, code := impl.SumProve(kind, tables, s)
	if code != impl.OK {
		t.Fatal("SumProve", kind, len(tables[0]), code)
	}
	return sumProof{rounds, point, values, end}
}

// plainSumProof goes by the calls that chapter 9 names, one behind the other.
func plainSumProof(t *testing.T, kind int, tables [][]impl.Ext, s impl.Source) sumProof {
	t.Helper()
	p := sumProof{end: s}
	for len(tables[0]) > 1 {
		round := roundOf(t, kind, tables)
		told, code := impl.AbsorbExts(p.end, round)
		if code != impl.OK {
			t.Fatal("AbsorbExts", code)
		}
		after, r, code := impl.TakeOne(told)
		if code != impl.OK {
			t.Fatal("TakeOne", code)
		}
		p.rounds, p.point, p.end = append(p.rounds, round), append(p.point, r), after
		tables = allFolded(t, tables, r)
	}
	p.values = valuesAt(tables, 0)
	return p
}

func sameLists(a, b [][]impl.Ext) bool { return slices.EqualFunc(a, b, slices.Equal[[]impl.Ext]) }

func TestDegrees(t *testing.T) {
	if impl.SuProduct != 1 || impl.SuGate != 2 {
		t.Error("the kinds", impl.SuProduct, impl.SuGate)
	}
	for _, k := range sumKinds {
		if degree, code := impl.DegreeOf(k.kind); degree != k.degree || code != impl.OK {
			t.Error(k, degree, code)
		}
	}
}

func TestCombine(t *testing.T) {
	list := append(someExts(0), mixedExts(6)...)
	for _, k := range sumKinds {
		for i := range list {
			for step := range list {
				var values []impl.Ext
				for j := range k.tables {
					values = append(values, list[(i+j*step)%len(list)])
				}
				if got, code := impl.Combine(k.kind, values); got != plainCombine(k.kind, values) || code != impl.OK {
					t.Fatal(k, values, got, code)
				}
			}
		}
	}
}

func TestSumIsOverAllPlaces(t *testing.T) {
	for _, k := range sumKinds {
		for vars := range impl.MaxVars + 1 {
			for i, tables := range someSums(k, vars) {
				if got, code := impl.SumOf(k.kind, tables); got != plainSum(k.kind, tables) || code != impl.OK {
					t.Fatal(k, vars, "sum", i, got, code)
				}
			}
		}
	}
}

func TestRoundIsOfBoundTables(t *testing.T) {
	for _, k := range sumKinds {
		for vars := 1; vars <= impl.MaxVars; vars++ {
			for i, tables := range someSums(k, vars) {
				round, code := impl.RoundOf(k.kind, tables)
				if len(round) != k.degree+1 || code != impl.OK {
					t.Fatal(k, vars, "sum", i, len(round), code)
				}
				for x, got := range round {
					if want := plainSum(k.kind, allFolded(t, tables, elements(x)[0])); got != want {
						t.Fatal(k, vars, "sum", i, "at", x, got, want)
					}
				}
				if extAdd(round[0], round[1]) != sumOf(t, k.kind, tables) {
					t.Fatal(k, vars, "sum", i, "is not that of the first two")
				}
			}
		}
	}
}

// A round tells the sums of all that variable 0 may be bound to.
func TestRoundIsAPolynomial(t *testing.T) {
	for _, k := range sumKinds {
		for vars := 1; vars <= impl.MaxVars; vars++ {
			tables := mixedSum(k, vars)
			round := roundOf(t, k.kind, tables)
			for _, x := range lineAts() {
				if got, code := impl.LineAt(round, x); got != sumOf(t, k.kind, allFolded(t, tables, x)) || code != impl.OK {
					t.Fatal(k, vars, "at", x, got, code)
				}
			}
		}
	}
}

func TestSumIsProvedRoundByRound(t *testing.T) {
	for _, k := range sumKinds {
		for vars := range impl.MaxVars + 1 {
			for i, tables := range someSums(k, vars) {
				for j, s := range sumSources() {
					got, want := sumProved(t, k.kind, tables, s), plainSumProof(t, k.kind, tables, s)
					if len(got.rounds) != vars || !sameLists(got.rounds, want.rounds) || !slices.Equal(got.point, want.point) {
						t.Fatal(k, vars, "rounds of sum", i, "by source", j)
					}
					if !slices.Equal(got.values, want.values) || !sameSource(got.end, want.end) {
						t.Fatal(k, vars, "the end of sum", i, "by source", j)
					}
				}
			}
		}
	}
}

// A table's last value is the one that it has at the point.
func TestLastValuesAreThoseOfThePoint(t *testing.T) {
	for _, k := range sumKinds {
		for vars := range impl.MaxVars + 1 {
			for _, s := range sumSources() {
				tables := mixedSum(k, vars)
				p := sumProved(t, k.kind, tables, s)
				for i, table := range tables {
					if p.values[i] != plainTableAt(table, p.point) {
						t.Fatal(k, vars, "table", i)
					}
				}
			}
		}
	}
}

func TestProvedSumIsVerified(t *testing.T) {
	for _, k := range sumKinds {
		for vars := range impl.MaxVars + 1 {
			for i, tables := range someSums(k, vars) {
				for j, s := range sumSources() {
					p := sumProved(t, k.kind, tables, s)
					point, last, end, code := impl.SumVerify(k.kind, sumOf(t, k.kind, tables), p.rounds, vars, s)
					if code != impl.OK || !slices.Equal(point, p.point) || !sameSource(end, p.end) {
						t.Fatal(k, vars, "sum", i, "by source", j, code)
					}
					if last != mustExt(impl.Combine(k.kind, p.values)) {
						t.Fatal(k, vars, "the last claim of sum", i, "by source", j)
					}
				}
			}
		}
	}
}

// otherExts are elements that are not a.
func otherExts(a impl.Ext) []impl.Ext {
	var list []impl.Ext
	for _, by := range []impl.Ext{ext1, extX, {A: prime - 1}, {B: prime - 1}, {A: 5, B: 6}} {
		list = append(list, extAdd(a, by))
	}
	if a != ext0 {
		list = append(list, ext0, extSub(ext0, a))
	}
	return list
}

// Without rounds there is nothing to refuse a claim by, but that the last one does not hold.
func TestWhatIsNoSumIsRefused(t *testing.T) {
	for _, k := range sumKinds {
		for vars := range impl.MaxVars + 1 {
			for i, tables := range someSums(k, vars) {
				for j, s := range sumSources() {
					p := sumProved(t, k.kind, tables, s)
					for _, claim := range otherExts(sumOf(t, k.kind, tables)) {
						point, last, end, code := impl.SumVerify(k.kind, claim, p.rounds, vars, s)
						if vars > 0 && (len(point) != 0 || last != ext0 || !isNoSource(end) || code != impl.ErrSum) {
							t.Fatal(k, vars, "sum", i, "by source", j, claim, point, last, code)
						}
						if vars == 0 && (last != claim || last == mustExt(impl.Combine(k.kind, p.values)) || !sameSource(end, s) || code != impl.OK) {
							t.Fatal(k, "one place, sum", i, "by source", j, claim, last, code)
						}
					}
				}
			}
		}
	}
}

func withElement(rounds [][]impl.Ext, at, place int, a impl.Ext) [][]impl.Ext {
	changed := slices.Clone(rounds)
	changed[at] = slices.Clone(rounds[at])
	changed[at][place] = a
	return changed
}

// A round with another element is refused then, in the next one, or by a last claim that does not hold. (A point of noughts and ones alone does not tell: there it may hold.)
func TestChangedRoundsAreRefused(t *testing.T) {
	for _, k := range sumKinds {
		for vars := 1; vars <= impl.MaxVars; vars++ {
			tables := mixedSum(k, vars)
			sum := sumOf(t, k.kind, tables)
			for j, s := range []impl.Source{{State: hashed("sums")}, {State: hashed("sums"), Script: mixedExts(5)}} {
				p := sumProved(t, k.kind, tables, s)
				for at, round := range p.rounds {
					for place := range round {
						for _, a := range otherExts(round[place]) {
							point, last, _, code := impl.SumVerify(k.kind, sum, withElement(p.rounds, at, place, a), vars, s)
							if wantsSum := place < 2 || at < vars-1; wantsSum != (code == impl.ErrSum) || !wantsSum && code != impl.OK {
								t.Fatal(k, vars, "source", j, "round", at, "place", place, code)
							}
							if code == impl.OK && last == plainCombineAt(k.kind, tables, point) {
								t.Fatal(k, vars, "source", j, "round", at, "place", place, "holds")
							}
						}
					}
				}
			}
		}
	}
}

func plainCombineAt(kind int, tables [][]impl.Ext, point []impl.Ext) impl.Ext {
	var values []impl.Ext
	for _, table := range tables {
		values = append(values, plainTableAt(table, point))
	}
	return plainCombine(kind, values)
}

// The rounds of a script do not hang on its state, but what is left of it does; a sponge draws otherwise.
func TestRoundsAreOfTheirSource(t *testing.T) {
	for _, k := range sumKinds {
		for vars := 2; vars <= impl.MaxVars; vars++ {
			tables := mixedSum(k, vars)
			sum := sumOf(t, k.kind, tables)
			p := sumProved(t, k.kind, tables, spongeNamed(t, "one"))
			if _, _, _, code := impl.SumVerify(k.kind, sum, p.rounds, vars, spongeNamed(t, "two")); code != impl.ErrSum {
				t.Error(k, vars, "another sponge", code)
			}
			one := impl.Source{State: hashed("one"), Script: mixedExts(3)}
			two := withState(one, hashed("two"))
			p = sumProved(t, k.kind, tables, one)
			point, _, end, code := impl.SumVerify(k.kind, sum, p.rounds, vars, two)
			if code != impl.OK || !slices.Equal(point, p.point) || end.State == p.end.State || end.At != vars {
				t.Error(k, vars, "a script of another state", code)
			}
		}
	}
}
