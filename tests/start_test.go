package tests

import (
	"slices"
	"testing"

	"loop.example/g00348/impl"
)

// Promise 13, of what a proof begins with, and of the table that its second sum is of.

// proveAsked is what Prove is handed.
type proveAsked struct {
	s                 impl.System
	set               impl.Setting
	publics, privates []int
	source            impl.Source
}

const leftForProof = 200

func proofSources() []impl.Source { return sourcesWithLeft(leftForProof) }

// plainText is what Start takes in, as chapter 13 tells it.
func (a proveAsked) plainText() string {
	text := plainDigest(a.s) + string([]byte{byte(a.set.Rate), byte(a.set.Queries), byte(a.set.Grind)})
	for _, n := range a.publics {
		text += fourBytes(n)
	}
	return text
}

func started(t *testing.T, a proveAsked) impl.Source {
	t.Helper()
	s, code := impl.Start(a.s, a.set, a.publics, a.source)
	if code != impl.OK {
		t.Fatal("Start", a.s.Rows, a.s.Cols, a.set, a.publics, code)
	}
	return s
}

// Where nothing is public the text ends with the setting.
func TestStartTakesInOneText(t *testing.T) {
	settings, sources := someSettings(), proofSources()
	eachSize(func(rows, cols int) {
		matrices := someMatrices(1<<rows, 1<<cols)
		for publics := range 1 << (cols - 1) {
			for i, list := range matrices {
				s := impl.System{Rows: rows, Cols: cols, Publics: publics, A: list, B: matrices[(i+2)%len(matrices)], C: matrices[(3*i+5)%len(matrices)]}
				a := proveAsked{s: s, set: settings[(publics+i)%len(settings)], publics: numbersOf(publics, i), source: sources[(publics+3*i)%len(sources)]}
				if got := started(t, a); !sameSource(got, plainTaken(t, a.source, a.plainText())) {
					t.Fatal(rows, cols, publics, "matrix", i, got)
				}
			}
		}
	})
}

func TestStartByHand(t *testing.T) {
	s := impl.System{Rows: 1, Cols: 3, Publics: 3, A: []impl.Entry{{Col: 5, Value: 9}}}
	text := digestOf(t, s) + "\x03\x08\x0c" + "\x00\x00\x00\x00" + "\x01\x02\x03\x04" + "\x7f\x00\x00\x00"
	sponge := spongeNamed(t, "by hand")
	script := withNumbers(withScript(sponge, mixedExts(3)), 7, 5)
	for _, source := range []impl.Source{sponge, script} {
		a := proveAsked{s: s, set: impl.Setting{Rate: 3, Queries: 8, Grind: 12}, publics: []int{0, 0x01020304, prime - 1}, source: source}
		if got := started(t, a); !sameSource(got, taken(t, source, text)) {
			t.Error("three public numbers", got)
		}
		s := impl.System{Rows: 5, Cols: 2}
		a = proveAsked{s: s, set: impl.Setting{Rate: 1, Queries: 2}, source: source}
		if got := started(t, a); !sameSource(got, taken(t, source, digestOf(t, s)+"\x01\x02\x00")) {
			t.Error("no public numbers", got)
		}
	}
}

// Whichever one thing is another one, the state is.
func TestStartHangsOnAllThatIsHandedIn(t *testing.T) {
	seen := map[string]int{}
	for i, does := range []func(a *proveAsked){
		func(*proveAsked) {},
		func(a *proveAsked) { a.s.Rows = 3 },
		func(a *proveAsked) { a.s.Cols = 4 },
		func(a *proveAsked) { a.s.Publics, a.publics = 1, []int{5} },
		func(a *proveAsked) { a.s.Publics, a.publics = 3, []int{5, 6, 0} },
		func(a *proveAsked) { a.s.A = nil },
		func(a *proveAsked) { a.s.B = a.s.A },
		func(a *proveAsked) { a.s.C = a.s.A },
		func(a *proveAsked) { a.s.A, a.s.B = nil, a.s.A },
		func(a *proveAsked) { a.s.A = []impl.Entry{{Row: 1, Col: 2, Value: 4}} },
		func(a *proveAsked) { a.set.Rate = 3 },
		func(a *proveAsked) { a.set.Queries = 2 },
		func(a *proveAsked) { a.set.Queries = 8 },
		func(a *proveAsked) { a.set.Grind = 0 },
		func(a *proveAsked) { a.set.Grind = 3 },
		func(a *proveAsked) { a.set = impl.Setting{Rate: 2, Queries: 2, Grind: 3} },
		func(a *proveAsked) { a.publics = []int{6, 5} },
		func(a *proveAsked) { a.publics = []int{5, 7} },
		func(a *proveAsked) { a.publics = []int{5 << 8, 6} },
		func(a *proveAsked) { a.publics = []int{5, 6 << 24} },
		func(a *proveAsked) { a.source.State = hashed("others") },
	} {
		a := proveAsked{
			s:   impl.System{Rows: 2, Cols: 3, Publics: 2, A: []impl.Entry{{Row: 1, Col: 2, Value: 3}}},
			set: impl.Setting{Rate: 2, Queries: 3, Grind: 2}, publics: []int{5, 6}, source: impl.Source{State: hashed("start")},
		}
		does(&a)
		state := started(t, a).State
		if before, is := seen[state]; is {
			t.Error("cases", before, "and", i, "have one state")
		}
		seen[state] = i
	}
}

// plainBound is the sum column by column, of all three matrices' entries.
func plainBound(s impl.System, rx []impl.Ext, r ...impl.Ext) []impl.Ext {
	eq := make([]impl.Ext, 1<<s.Rows)
	for row := range eq {
		eq[row] = plainEq(rx, row)
	}
	table := make([]impl.Ext, 1<<s.Cols)
	for col := range table {
		for i, list := range [][]impl.Entry{s.A, s.B, s.C} {
			for _, e := range list {
				if e.Col == col {
					table[col] = extAdd(table[col], extMul(r[i], extMul(impl.Ext{A: e.Value}, eq[e.Row])))
				}
			}
		}
	}
	return table
}

func boundTable(t *testing.T, s impl.System, rx []impl.Ext, r ...impl.Ext) []impl.Ext {
	t.Helper()
	table, code := impl.BoundTable(s, rx, r[0], r[1], r[2])
	if code != impl.OK || len(table) != 1<<s.Cols {
		t.Fatal("BoundTable", s.Rows, s.Cols, rx, r, len(table), code)
	}
	return table
}

// someThrees are what is drawn for A, B and C: each of them 0 by itself, all of them, edges and mixed ones.
func someThrees() [][]impl.Ext {
	m := mixedExts(3)
	return [][]impl.Ext{
		m, {ext0, ext0, ext0}, {ext1, ext1, ext1}, {ext0, m[1], m[2]}, {m[0], ext0, m[2]}, {m[0], m[1], ext0},
		{m[0], ext0, ext0}, {ext0, m[1], ext0}, {ext0, ext0, m[2]}, {extX, {A: prime - 1, B: prime - 1}, {A: 2}}, {{A: prime - 1}, {A: 1}, {B: prime - 1}},
	}
}

// systemsOf have entries in one matrix alone, in none, in two and in all.
func systemsOf(rows, cols int) []impl.System {
	var list []impl.System
	matrices := someMatrices(1<<rows, 1<<cols)
	for i, m := range matrices {
		n, o := matrices[(i+3)%len(matrices)], matrices[(4*i+1)%len(matrices)]
		list = append(list, impl.System{A: m}, impl.System{B: m}, impl.System{C: m}, impl.System{A: m, B: n}, impl.System{B: m, C: n}, impl.System{A: m, B: n, C: o})
	}
	for i := range list {
		list[i].Rows, list[i].Cols, list[i].Publics = rows, cols, i%(1<<(cols-1))
	}
	return list
}

func TestBoundTableIsTheSumOverTheEntries(t *testing.T) {
	eachSize(func(rows, cols int) {
		points, threes := somePoints(rows), someThrees()
		for i, s := range systemsOf(rows, cols) {
			for j, r := range threes {
				rx := points[(i+4*j)%len(points)]
				if got := boundTable(t, s, rx, r...); !slices.Equal(got, plainBound(s, rx, r...)) {
					t.Fatal(rows, cols, "system", i, "at", rx, "by", r, got)
				}
			}
		}
	})
}

// At each column it is the three matrices' values there, each by what was drawn for it.
func TestBoundTableIsOfTheMatricesTables(t *testing.T) {
	eachSize(func(rows, cols int) {
		for i, s := range systemsOf(rows, cols) {
			points, threes := somePoints(rows), someThrees()
			rx, r := points[i%len(points)], threes[i%len(threes)]
			ry := somePoints(cols)[(5*i+7)%len(points)]
			want := extAdd(extMul(r[0], matrixAt(t, s.A, rx, ry)), extAdd(extMul(r[1], matrixAt(t, s.B, rx, ry)), extMul(r[2], matrixAt(t, s.C, rx, ry))))
			if got := tableAt(t, boundTable(t, s, rx, r...), ry); got != want {
				t.Fatal(rows, cols, "system", i, got, want)
			}
		}
	})
}

func TestBoundTableByHand(t *testing.T) {
	s := impl.System{
		Rows: 1, Cols: 2,
		A: []impl.Entry{{Row: 0, Col: 0, Value: 2}, {Row: 1, Col: 0, Value: 3}, {Row: 1, Col: 3, Value: 1}},
		B: []impl.Entry{{Row: 0, Col: 1, Value: prime - 1}},
		C: []impl.Entry{{Row: 0, Col: 3, Value: 5}},
	}
	// Row 0 is by 1 less 4, row 1 by 4.
	if got := boundTable(t, s, elements(4), elements(10, 100, 1000)...); !slices.Equal(got, elements(10*(2*-3+3*4), 100*3, 0, 10*4+1000*5*-3)) {
		t.Error(got)
	}
	// By x itself: row 0 by 1 less x, row 1 by x; x squared is 3.
	want := []impl.Ext{{A: 3, B: 2}, {A: prime - 1, B: 1}, ext0, {A: 5 + 3, B: prime - 5}}
	if got := boundTable(t, s, []impl.Ext{extX}, extX, ext1, ext1); !slices.Equal(got, want) {
		t.Error(got)
	}
	if got := boundTable(t, impl.System{Rows: 1, Cols: 2}, elements(4), elements(10, 100, 1000)...); !slices.Equal(got, make([]impl.Ext, 4)) {
		t.Error("no entries", got)
	}
}

// Of a row's own place it is that row, by what was drawn.
func TestBoundTableAtARow(t *testing.T) {
	eachSize(func(rows, cols int) {
		s := impl.System{Rows: rows, Cols: cols, A: entriesIn(1<<rows, 1<<cols, min(1<<(rows+cols), 200)), B: entriesIn(1<<rows, 1<<cols, 3), C: entriesIn(1<<rows, 1<<cols, 5)}
		for row := range 1 << rows {
			for col, got := range boundTable(t, s, placePoint(row, rows), ext1, extX, impl.Ext{A: 7}) {
				want := extAdd(valueAt(s.A, row, col), extAdd(extMul(extX, valueAt(s.B, row, col)), extMul(impl.Ext{A: 7}, valueAt(s.C, row, col))))
				if got != want {
					t.Fatal(rows, cols, "row", row, "column", col, got, want)
				}
			}
		}
	})
}
