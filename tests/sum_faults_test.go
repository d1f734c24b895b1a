package tests

import (
	"math"
	"slices"
	"testing"

	"loop.example/g00348/impl"
)

// Promise 9, of wrong kinds, values, tables, sources, claims, numbers of variables and rounds, and of two things that are wrong at once.

var noKinds = []int{0, 3, -1, -2, 4, 1 << 32, 1<<32 + 1, math.MaxInt, math.MinInt}

var noVars = []int{-1, 7, 8, 64, -7, 1 << 32, math.MaxInt, math.MinInt}

// fewDraws are right sources with fewer than 6 draws left.
func fewDraws() []impl.Source {
	var list []impl.Source
	for _, script := range [][]impl.Ext{nil, mixedExts(5)} {
		s := impl.Source{State: hashed("sums"), Script: script}
		for left := range 6 {
			n := allDraws - left
			list = append(list, withNumbers(s, n, 0), withNumbers(s, 0, n), withNumbers(s, n, n), withNumbers(s, n, allDraws-6))
		}
	}
	return list
}

func TestNoKinds(t *testing.T) {
	s := impl.Source{State: hashed("sums")}
	for _, kind := range noKinds {
		if degree, code := impl.DegreeOf(kind); degree != 0 || code != impl.ErrRange {
			t.Error("DegreeOf", kind, degree, code)
		}
		for n := range 6 {
			if got, code := impl.Combine(kind, mixedExts(n)); got != ext0 || code != impl.ErrRange {
				t.Error("Combine", kind, n, got, code)
			}
			asksTablesCode(t, kind, slices.Repeat([][]impl.Ext{mixedExts(4)}, n), impl.ErrRange)
			asksTablesCode(t, kind, slices.Repeat([][]impl.Ext{{badExt}}, n), impl.ErrRange)
		}
		asksVerifyCode(t, kind, ext0, nil, 0, s, impl.ErrRange)
	}
}

func TestCombineFaults(t *testing.T) {
	for _, k := range sumKinds {
		for _, n := range []int{0, 1, 2, 3, 4, 5, 8, impl.MaxList} {
			if n == k.tables {
				continue
			}
			if got, code := impl.Combine(k.kind, mixedExts(n)); got != ext0 || code != impl.ErrRange {
				t.Error(k, n, "values", got, code)
			}
		}
	}
	for _, kind := range append([]int{impl.SuProduct, impl.SuGate}, noKinds...) {
		for _, bad := range wrongExts() {
			for n := 1; n <= 5; n++ {
				for place := range n {
					if got, code := impl.Combine(kind, extsWith(n, place, bad)); got != ext0 || code != impl.ErrBad {
						t.Error(kind, n, "values with", bad, "at", place, got, code)
					}
				}
			}
		}
		for _, list := range [][]impl.Ext{mixedExts(longList), extsWith(longList, 0, badExt)} {
			if got, code := impl.Combine(kind, list); got != ext0 || code != impl.ErrLong {
				t.Error(kind, "too many values", got, code)
			}
		}
	}
}

// asksTablesCode wants a code of all calls that take tables. SumProve has it ahead of what is wrong with its source.
func asksTablesCode(t *testing.T, kind int, tables [][]impl.Ext, want int) {
	t.Helper()
	if got, code := impl.SumOf(kind, tables); got != ext0 || code != want {
		t.Error("SumOf", kind, len(tables), got, code, want)
	}
	if got, code := impl.RoundOf(kind, tables); len(got) != 0 || code != want {
		t.Error("RoundOf", kind, len(tables), got, code, want)
	}
	asksProveCode(t, kind, tables, impl.Source{State: hashed("sums")}, want)
	asksProveCode(t, kind, tables, impl.Source{}, want)
	asksProveCode(t, kind, tables, impl.Source{State: hashed("sums"), At: allDraws}, want)
}

func asksProveCode(t *testing.T, kind int, tables [][]impl.Ext, s impl.Source, want int) {
	t.Helper()
	rounds, point, values, end, code := impl.SumProve(kind, tables, s)
	if len(rounds) != 0 || len(point) != 0 || len(values) != 0 || !isNoSource(end) || code != want {
		t.Error("SumProve", kind, len(tables), len(rounds), len(point), len(values), end, code, want)
	}
}

func TestNumbersOfTables(t *testing.T) {
	for _, k := range sumKinds {
		for _, n := range []int{0, 1, 2, 3, 4, 5, 8, 64, impl.MaxList} {
			if n == k.tables {
				continue
			}
			for _, table := range [][]impl.Ext{mixedExts(4), {ext1}, nil, mixedExts(3), {badExt}} {
				asksTablesCode(t, k.kind, slices.Repeat([][]impl.Ext{table}, n), impl.ErrRange)
			}
		}
	}
	for _, kind := range append([]int{impl.SuProduct, impl.SuGate}, noKinds...) {
		for _, table := range [][]impl.Ext{nil, mixedExts(2), {badExt}} {
			asksTablesCode(t, kind, slices.Repeat([][]impl.Ext{table}, longList), impl.ErrLong)
		}
	}
}

// withTable is tables of one length with another one at a place.
func withTable(k sumKind, n, at int, table []impl.Ext) [][]impl.Ext {
	tables := slices.Repeat([][]impl.Ext{mixedExts(n)}, k.tables)
	tables[at] = table
	return tables
}

// Of a table within a list no length is told but by what the chapter says of it.
func TestTablesThatAreNone(t *testing.T) {
	for _, k := range sumKinds {
		for at := range k.tables {
			for _, n := range append([]int{longList, 2 * impl.MaxList}, noTables...) {
				asksTablesCode(t, k.kind, withTable(k, 4, at, mixedExts(n)), impl.ErrBad)
			}
			for n := 1; n <= maxTable; n *= 2 {
				for _, place := range []int{0, n / 2, n - 1} {
					asksTablesCode(t, k.kind, withTable(k, n, at, extsWith(n, place, badExt)), impl.ErrBad)
				}
			}
			for _, bad := range wrongExts() {
				asksTablesCode(t, k.kind, withTable(k, 2, at, []impl.Ext{ext1, bad}), impl.ErrBad)
			}
		}
	}
}

func TestTablesOfOtherLengths(t *testing.T) {
	for _, k := range sumKinds {
		for at := range k.tables {
			for m := 1; m <= maxTable; m *= 2 {
				for n := 1; n <= maxTable; n *= 2 {
					if m != n {
						asksTablesCode(t, k.kind, withTable(k, m, at, mixedExts(n)), impl.ErrSize)
					}
				}
			}
		}
	}
}

// Table by table: what is wrong with the first of them counts, and in one table ErrBad comes first.
func TestTablesInTurn(t *testing.T) {
	four, two, three, bad := mixedExts(4), mixedExts(2), mixedExts(3), extsWith(4, 3, badExt)
	for i, c := range []struct {
		kind   int
		tables [][]impl.Ext
		code   int
	}{
		{impl.SuProduct, [][]impl.Ext{bad, two}, impl.ErrBad},
		{impl.SuProduct, [][]impl.Ext{three, two}, impl.ErrBad},
		{impl.SuProduct, [][]impl.Ext{two, bad}, impl.ErrBad},
		{impl.SuProduct, [][]impl.Ext{four, {badExt}}, impl.ErrBad},
		{impl.SuProduct, [][]impl.Ext{{ext1}, two}, impl.ErrSize},
		{impl.SuProduct, [][]impl.Ext{{ext1}, {badExt}}, impl.ErrBad},
		{impl.SuGate, [][]impl.Ext{four, two, bad, four}, impl.ErrSize},
		{impl.SuGate, [][]impl.Ext{four, two, three, four}, impl.ErrSize},
		{impl.SuGate, [][]impl.Ext{four, two, nil, nil}, impl.ErrSize},
		{impl.SuGate, [][]impl.Ext{four, bad, two, four}, impl.ErrBad},
		{impl.SuGate, [][]impl.Ext{four, four, two, bad}, impl.ErrSize},
		{impl.SuGate, [][]impl.Ext{four, four, bad, two}, impl.ErrBad},
		{impl.SuGate, [][]impl.Ext{four, four, three, two}, impl.ErrBad},
		{impl.SuGate, [][]impl.Ext{nil, two, four, four}, impl.ErrBad},
		{impl.SuGate, [][]impl.Ext{{ext1}, {ext1}, two, {badExt}}, impl.ErrSize},
		{impl.SuGate, [][]impl.Ext{two, two, two, {ext1}}, impl.ErrSize},
	} {
		t.Log("case", i)
		asksTablesCode(t, c.kind, c.tables, c.code)
	}
}

func TestRoundOfOnePlaceAlone(t *testing.T) {
	for _, k := range sumKinds {
		for _, a := range []impl.Ext{ext0, ext1, extX} {
			tables := slices.Repeat([][]impl.Ext{{a}}, k.tables)
			if got, code := impl.RoundOf(k.kind, tables); len(got) != 0 || code != impl.ErrSize {
				t.Error(k, a, got, code)
			}
			if got, code := impl.SumOf(k.kind, tables); got != plainSum(k.kind, tables) || code != impl.OK {
				t.Error("SumOf", k, a, got, code)
			}
		}
	}
}

// However few variables there are, 6 draws have to be left.
func TestSumProveSources(t *testing.T) {
	for _, k := range sumKinds {
		for vars := range impl.MaxVars + 1 {
			for _, s := range wrongSources() {
				asksProveCode(t, k.kind, mixedSum(k, vars), s, impl.ErrBad)
			}
			for _, s := range fewDraws() {
				asksProveCode(t, k.kind, mixedSum(k, vars), s, impl.ErrMany)
			}
		}
	}
}

func asksVerifyCode(t *testing.T, kind int, claim impl.Ext, rounds [][]impl.Ext, vars int, s impl.Source, want int) {
	t.Helper()
	point, last, end, code := impl.SumVerify(kind, claim, rounds, vars, s)
	if len(point) != 0 || last != ext0 || !isNoSource(end) || code != want {
		t.Error("SumVerify", kind, claim, len(rounds), vars, point, last, end, code, want)
	}
}

// verifyFault is one thing that may be wrong with what SumVerify is handed, with its code; they stand in the order in which chapter 9 names them.
type verifyFault struct {
	code int
	does func(v *verifyAsked)
}

type verifyAsked struct {
	kind   int
	claim  impl.Ext
	rounds [][]impl.Ext
	vars   int
	s      impl.Source
}

func (v *verifyAsked) longRound(n int) {
	v.rounds = append(slices.Clone(v.rounds), make([]impl.Ext, n))
}

func verifyFaults() []verifyFault {
	return []verifyFault{
		{impl.ErrLong, func(v *verifyAsked) { v.rounds = slices.Concat(v.rounds, make([][]impl.Ext, impl.MaxList+1)) }},
		{impl.ErrBad, func(v *verifyAsked) { v.claim = badExt }},
		{impl.ErrBad, func(v *verifyAsked) { v.rounds = append(slices.Clone(v.rounds), []impl.Ext{ext0, ext0, badExt}) }},
		{impl.ErrBad, func(v *verifyAsked) { v.longRound(9) }},
		{impl.ErrBad, func(v *verifyAsked) { v.longRound(longList) }},
		{impl.ErrBad, func(v *verifyAsked) { v.s.State = "short" }},
		{impl.ErrRange, func(v *verifyAsked) { v.kind = 3 }},
		{impl.ErrRange, func(v *verifyAsked) { v.kind = 0 }},
		{impl.ErrRange, func(v *verifyAsked) { v.vars = 7 }},
		{impl.ErrRange, func(v *verifyAsked) { v.vars = -1 }},
		{impl.ErrMany, func(v *verifyAsked) { v.s.At = allDraws - 5 }},
		{impl.ErrMany, func(v *verifyAsked) { v.s.Count = allDraws }},
		{impl.ErrLength, func(v *verifyAsked) { v.rounds = append(slices.Clone(v.rounds), v.rounds[0]) }},
		{impl.ErrLength, func(v *verifyAsked) { v.rounds = v.rounds[:len(v.rounds)-1] }},
		{impl.ErrLength, func(v *verifyAsked) { v.rounds = nil }},
	}
}

func (v verifyAsked) asksCode(t *testing.T, want int) {
	t.Helper()
	asksVerifyCode(t, v.kind, v.claim, v.rounds, v.vars, v.s, want)
}

// Of two things that are wrong the one that chapter 9 names first is told, and ahead of all that is wrong in a round.
func TestSumVerifyOrderOfCodes(t *testing.T) {
	for _, k := range sumKinds {
		tables := mixedSum(k, 3)
		for _, s := range []impl.Source{{State: hashed("sums")}, {State: hashed("sums"), Script: mixedExts(5)}} {
			right := verifyAsked{k.kind, sumOf(t, k.kind, tables), sumProved(t, k.kind, tables, s).rounds, 3, s}
			noSum, short := right, right
			noSum.claim = extAdd(right.claim, ext1)
			short.rounds = append([][]impl.Ext{{ext0}}, right.rounds[1:]...)
			for _, base := range []verifyAsked{right, noSum, short} {
				asksFaultsInOrder(t, base)
			}
		}
	}
}

func asksFaultsInOrder(t *testing.T, base verifyAsked) {
	t.Helper()
	faults := verifyFaults()
	for i, first := range faults {
		one := base
		first.does(&one)
		one.asksCode(t, first.code)
		for _, second := range faults[i+1:] {
			if second.code == first.code {
				continue
			}
			// The first one is done last, so that the other one can't take it away again.
			two := base
			second.does(&two)
			first.does(&two)
			two.asksCode(t, first.code)
		}
	}
}

func TestSumVerifyWrongElements(t *testing.T) {
	s := impl.Source{State: hashed("sums")}
	for _, k := range sumKinds {
		tables := mixedSum(k, 2)
		sum, rounds := sumOf(t, k.kind, tables), sumProved(t, k.kind, tables, s).rounds
		for _, bad := range wrongExts() {
			asksVerifyCode(t, k.kind, bad, rounds, 2, s, impl.ErrBad)
			asksVerifyCode(t, k.kind, bad, nil, 0, s, impl.ErrBad)
			for at, round := range rounds {
				for place := range round {
					asksVerifyCode(t, k.kind, sum, withElement(rounds, at, place, bad), 2, s, impl.ErrBad)
				}
			}
			asksVerifyCode(t, k.kind, sum, [][]impl.Ext{rounds[0], {bad}}, 2, s, impl.ErrBad)
			asksVerifyCode(t, k.kind, sum, [][]impl.Ext{rounds[0], rounds[1], {bad}}, 2, s, impl.ErrBad)
		}
	}
}

func TestSumVerifySources(t *testing.T) {
	right := impl.Source{State: hashed("sums")}
	for _, k := range sumKinds {
		for vars := range impl.MaxVars + 1 {
			tables := mixedSum(k, vars)
			sum, rounds := sumOf(t, k.kind, tables), sumProved(t, k.kind, tables, right).rounds
			for _, s := range wrongSources() {
				asksVerifyCode(t, k.kind, sum, rounds, vars, s, impl.ErrBad)
			}
			for _, s := range fewDraws() {
				asksVerifyCode(t, k.kind, sum, rounds, vars, s, impl.ErrMany)
			}
		}
	}
}

func TestSumVerifyVars(t *testing.T) {
	s := impl.Source{State: hashed("sums")}
	for _, k := range sumKinds {
		for vars := range impl.MaxVars + 1 {
			tables := mixedSum(k, vars)
			sum, rounds := sumOf(t, k.kind, tables), sumProved(t, k.kind, tables, s).rounds
			for _, none := range noVars {
				asksVerifyCode(t, k.kind, sum, rounds, none, s, impl.ErrRange)
			}
			for other := range impl.MaxVars + 1 {
				if other != vars {
					asksVerifyCode(t, k.kind, sum, rounds, other, s, impl.ErrLength)
				}
			}
		}
		asksVerifyCode(t, k.kind, ext0, make([][]impl.Ext, 7), 7, s, impl.ErrRange)
		asksVerifyCode(t, k.kind, ext0, make([][]impl.Ext, impl.MaxList), 6, s, impl.ErrLength)
		asksVerifyCode(t, k.kind, ext0, make([][]impl.Ext, longList), 6, s, impl.ErrLong)
	}
}

// Rounds of noughts alone sum to 0 and lead to 0, so that only their lengths are wrong.
func TestSumVerifyLengthsOfRounds(t *testing.T) {
	s := impl.Source{State: hashed("sums")}
	for _, k := range sumKinds {
		for vars := 1; vars <= impl.MaxVars; vars++ {
			for at := range vars {
				for n := range 12 {
					rounds := slices.Repeat([][]impl.Ext{make([]impl.Ext, k.degree+1)}, vars)
					rounds[at] = make([]impl.Ext, n)
					if n > 8 {
						asksVerifyCode(t, k.kind, ext0, rounds, vars, s, impl.ErrBad)
					} else if n != k.degree+1 {
						asksVerifyCode(t, k.kind, ext0, rounds, vars, s, impl.ErrLength)
					} else if point, last, _, code := impl.SumVerify(k.kind, ext0, rounds, vars, s); len(point) != vars || last != ext0 || code != impl.OK {
						t.Error(k, vars, len(point), last, code)
					}
				}
			}
		}
	}
}

// Round by round: a length that is wrong is told ahead of that round's sum, but behind the sums of those ahead of it.
func TestSumVerifyRoundsInTurn(t *testing.T) {
	s := impl.Source{State: hashed("sums")}
	for _, k := range sumKinds {
		right, noSum := make([]impl.Ext, k.degree+1), extsWith(k.degree+1, 0, ext1)
		short, long := extsWith(k.degree, 0, ext1), extsWith(k.degree+2, 0, ext1)
		for i, c := range []struct {
			rounds [][]impl.Ext
			code   int
		}{
			{[][]impl.Ext{right, noSum, short}, impl.ErrSum},
			{[][]impl.Ext{noSum, right, long}, impl.ErrSum},
			{[][]impl.Ext{noSum, nil, right}, impl.ErrSum},
			{[][]impl.Ext{right, right, noSum}, impl.ErrSum},
			{[][]impl.Ext{right, short, noSum}, impl.ErrLength},
			{[][]impl.Ext{long, noSum, right}, impl.ErrLength},
			{[][]impl.Ext{nil, right, noSum}, impl.ErrLength},
			{[][]impl.Ext{right, right, {}}, impl.ErrLength},
			{[][]impl.Ext{right, right, {ext1}}, impl.ErrLength},
		} {
			t.Log("case", i)
			asksVerifyCode(t, k.kind, ext0, c.rounds, 3, s, c.code)
		}
	}
}
