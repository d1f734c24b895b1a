package tests

import (
	"slices"
	"testing"

	"loop.example/g00348/impl"
)

// Promise 10. Openings that cheat are tested in open_cheats_test.go.

const leftForOpening = 100

// someSettings are the ends of each number, and some between.
func someSettings() []impl.Setting {
	return []impl.Setting{
		{Rate: 1, Queries: 1, Grind: 0}, {Rate: 1, Queries: 8, Grind: 0}, {Rate: 3, Queries: 1, Grind: 0}, {Rate: 3, Queries: 8, Grind: 3},
		{Rate: 2, Queries: 3, Grind: 5}, {Rate: 1, Queries: 2, Grind: 1}, {Rate: 3, Queries: 5, Grind: 2}, {Rate: 2, Queries: 8, Grind: 0},
	}
}

// sourcesWithLeft are sponges and scripts, new ones, used ones, and such as have just so many draws left.
func sourcesWithLeft(left int) []impl.Source {
	state := hashed("openings")
	list := []impl.Source{
		{State: state},
		{State: hashed("others"), Count: 77},
		{State: state, Script: []impl.Ext{ext0}},
		{State: state, Script: []impl.Ext{ext1}},
		{State: state, Script: []impl.Ext{extX}},
		{State: state, Script: []impl.Ext{{A: prime - 1, B: prime - 1}}},
		{State: state, Script: mixedExts(4), At: 3, Count: 5},
		{State: state, Script: mixedExts(64), At: 61},
	}
	for _, script := range [][]impl.Ext{nil, mixedExts(15)} {
		list = append(list,
			impl.Source{State: state, Script: script, At: allDraws - left},
			impl.Source{State: state, Script: script, Count: allDraws - left},
			impl.Source{State: state, Script: script, At: allDraws - left, Count: allDraws - left},
		)
	}
	return list
}

func openSources() []impl.Source { return sourcesWithLeft(leftForOpening) }

// plainLeaves are each two elements that stand half a word apart.
func plainLeaves(word []impl.Ext) []string {
	leaves := make([]string, len(word)/2)
	for i := range leaves {
		leaves[i] = string(bytesOf([]impl.Ext{word[i], word[i+len(leaves)]}))
	}
	return leaves
}

func merkleRoot(t *testing.T, leaves []string) string {
	t.Helper()
	root, code := impl.MerkleRoot(leaves)
	if code != impl.OK {
		t.Fatal("MerkleRoot", len(leaves), code)
	}
	return root
}

func takenExts(t *testing.T, s impl.Source, list ...impl.Ext) impl.Source {
	t.Helper()
	after, code := impl.AbsorbExts(s, list)
	if code != impl.OK {
		t.Fatal("AbsorbExts", list, code)
	}
	return after
}

// showing is all that there is to an opening: what was drawn for it, and the words as they were committed.
type showing struct {
	root   string
	o      impl.Opening
	drawn  []impl.Ext
	words  [][]impl.Ext
	places []int
	end    impl.Source
}

// cheat is one element of one word that is committed as another; the words behind it are folded from that, or go on as they were.
type cheat struct {
	word, place int
	folded      bool
}

var honest = cheat{word: -1}

func (c cheat) inPlaceOf(at int, word []impl.Ext) []impl.Ext {
	if at != c.word {
		return word
	}
	other := slices.Clone(word)
	other[c.place] = extAdd(word[c.place], impl.Ext{A: 3, B: 4})
	return other
}

// shown goes by the calls that chapter 10 names, one behind the other.
func shown(t *testing.T, table, point []impl.Ext, set impl.Setting, s impl.Source, c cheat) showing {
	t.Helper()
	w := shownDown(t, table, point, set.Rate, s, c)
	w.ask(t, set)
	return w
}

// shownDown is as far as Last, which is taken in.
func shownDown(t *testing.T, table, point []impl.Ext, rate int, s impl.Source, c cheat) showing {
	t.Helper()
	w := showing{end: s}
	word, tables := wordOf(t, coefsOf(t, table), rate), [][]impl.Ext{table, eqOf(t, point)}
	for i := range point {
		told := c.inPlaceOf(i, word)
		w.tell(t, told)
		if c.folded {
			word = told
		}
		round := roundOf(t, impl.SuProduct, tables)
		after, drawn := someDraws(t, takenExts(t, w.end, round...), 1)
		w.o.Rounds, w.drawn, w.end = append(w.o.Rounds, round), append(w.drawn, drawn[0]), after
		tables, word = allFolded(t, tables, drawn[0]), foldedWord(t, word, drawn[0])
	}
	w.o.Last = tables[0][0]
	w.end = takenExts(t, w.end, w.o.Last)
	return w
}

// tell has the word's root; the first one is known ahead.
func (w *showing) tell(t *testing.T, word []impl.Ext) {
	t.Helper()
	root := merkleRoot(t, plainLeaves(word))
	if len(w.words) == 0 {
		w.root = root
	} else {
		w.o.Roots, w.end = append(w.o.Roots, root), taken(t, w.end, root)
	}
	w.words = append(w.words, word)
}

// ask has the end of an opening: the nonce, the places and what stands there.
func (w *showing) ask(t *testing.T, set impl.Setting) {
	t.Helper()
	nonce, code := impl.GrindNonce(w.end, set.Grind)
	if code != impl.OK {
		t.Fatal("GrindNonce", set.Grind, code)
	}
	w.o.Nonce = nonce
	w.end, w.places, code = impl.TakePlaces(taken(t, w.end, fourBytes(nonce)), set.Queries, len(w.words[0])/2)
	if code != impl.OK {
		t.Fatal("TakePlaces", set.Queries, code)
	}
	for _, place := range w.places {
		w.o.Queries = append(w.o.Queries, w.answer(t, place))
	}
}

func (w *showing) answer(t *testing.T, place int) impl.Query {
	t.Helper()
	var q impl.Query
	for _, word := range w.words {
		half := len(word) / 2
		q.Pairs = append(q.Pairs, word[place%half], word[place%half+half])
		q.Paths = append(q.Paths, pathOf(t, plainLeaves(word), place%half))
	}
	return q
}

func sameTexts(a, b [][]string) bool { return slices.EqualFunc(a, b, slices.Equal[[]string]) }

func sameOpening(a, b impl.Opening) bool {
	return sameLists(a.Rounds, b.Rounds) && slices.Equal(a.Roots, b.Roots) && a.Last == b.Last && a.Nonce == b.Nonce &&
		slices.EqualFunc(a.Queries, b.Queries, func(p, q impl.Query) bool {
			return slices.Equal(p.Pairs, q.Pairs) && sameTexts(p.Paths, q.Paths)
		})
}

func committed(t *testing.T, table []impl.Ext, rate int) string {
	t.Helper()
	root, code := impl.CommitTable(table, rate)
	if code != impl.OK || len(root) != 32 {
		t.Fatal("CommitTable", len(table), rate, len(root), code)
	}
	return root
}

func openedTable(t *testing.T, table, point []impl.Ext, set impl.Setting, s impl.Source) (impl.Opening, impl.Source) {
	t.Helper()
	o, end, code := impl.OpenTable(table, point, set, s)
	if code != impl.OK {
		t.Fatal("OpenTable", len(table), set, code)
	}
	return o, end
}

func TestOpeningSizes(t *testing.T) {
	if impl.MaxRate != 3 || impl.MaxQueries != 8 {
		t.Error(impl.MaxRate, impl.MaxQueries)
	}
}

func TestSettingsInTheirBounds(t *testing.T) {
	for rate := -2; rate <= 6; rate++ {
		for queries := -2; queries <= 11; queries++ {
			for grind := -2; grind <= 15; grind++ {
				want := rate >= 1 && rate <= 3 && queries >= 1 && queries <= 8 && grind >= 0 && grind <= 12
				if set := (impl.Setting{Rate: rate, Queries: queries, Grind: grind}); impl.SettingOK(set) != want {
					t.Error(set, "is right:", !want)
				}
			}
		}
	}
	for _, set := range wrongSettings() {
		if impl.SettingOK(set) {
			t.Error(set, "is right")
		}
	}
}

func TestCommittedByTheRootOfTheWord(t *testing.T) {
	for vars := 1; vars <= impl.MaxVars; vars++ {
		for rate := 1; rate <= impl.MaxRate; rate++ {
			for i, table := range someTables(vars) {
				if want := merkleRoot(t, plainLeaves(wordOf(t, coefsOf(t, table), rate))); committed(t, table, rate) != want {
					t.Fatal(vars, "variables at rate", rate, "table", i)
				}
			}
		}
	}
}

// The word is that of the polynomial whose coefficient of a place is that of the product of its variables.
func TestCommittedByPlainValues(t *testing.T) {
	for vars := 1; vars <= impl.MaxVars; vars++ {
		for _, rate := range []int{1, 3} {
			coefs := mixedExts(1 << vars)
			table := make([]impl.Ext, len(coefs))
			for place := range table {
				table[place] = plainPolynomial(coefs, placePoint(place, vars))
			}
			if committed(t, table, rate) != plainRoot(plainLeaves(plainWord(coefs, len(coefs)<<rate))) {
				t.Error(vars, "variables at rate", rate)
			}
		}
	}
}

func TestOpenedPartByPart(t *testing.T) {
	for vars := 1; vars <= impl.MaxVars; vars++ {
		for i, set := range someSettings() {
			for j, s := range openSources() {
				tables, points := someTables(vars), somePoints(vars)
				table, point := tables[(3+i+j)%len(tables)], points[(7+i*j)%len(points)]
				got, end := openedTable(t, table, point, set, s)
				want := shown(t, table, point, set, s, honest)
				if !sameOpening(got, want.o) || !sameSource(end, want.end) {
					t.Fatal(vars, "variables", set, "source", j)
				}
			}
		}
	}
}

// checksOut holds an opening against its table's value and against others.
func checksOut(t *testing.T, table, point []impl.Ext, set impl.Setting, s impl.Source) {
	t.Helper()
	vars, value, root := len(point), tableAt(t, table, point), committed(t, table, set.Rate)
	o, end := openedTable(t, table, point, set, s)
	if !impl.OpeningOK(o, vars, set) {
		t.Fatal(vars, set, "is no right opening")
	}
	if then, code := impl.CheckOpening(root, vars, point, value, set, o, s); code != impl.OK || !sameSource(then, end) {
		t.Fatal(vars, set, "is refused", code)
	}
	for _, other := range otherExts(value) {
		if then, code := impl.CheckOpening(root, vars, point, other, set, o, s); code != impl.ErrSum || !isNoSource(then) {
			t.Fatal(vars, set, "another value", other, code)
		}
	}
}

func TestOpenedIsAcceptedForItsValueAlone(t *testing.T) {
	for vars := 1; vars <= impl.MaxVars; vars++ {
		for i, set := range someSettings() {
			for j, s := range openSources() {
				tables, points := someTables(vars), somePoints(vars)
				checksOut(t, tables[(i+j)%len(tables)], points[(i+3*j)%len(points)], set, s)
			}
		}
	}
}

// All of these tables, points and settings, though not each by each.
func TestAllTablesAndPointsAreOpened(t *testing.T) {
	set, s := impl.Setting{Rate: 1, Queries: 2}, impl.Source{State: hashed("openings")}
	for vars := 1; vars <= impl.MaxVars; vars++ {
		for _, table := range someTables(vars) {
			checksOut(t, table, mixedExts(vars), set, s)
		}
		for _, point := range somePoints(vars) {
			checksOut(t, mixedExts(1<<vars), point, set, s)
		}
	}
	for rate := 1; rate <= impl.MaxRate; rate++ {
		for queries := 1; queries <= impl.MaxQueries; queries++ {
			checksOut(t, mixedExts(8), mixedExts(3), impl.Setting{Rate: rate, Queries: queries, Grind: queries % 4}, s)
		}
	}
	checksOut(t, mixedExts(2), mixedExts(1), impl.Setting{Rate: 1, Queries: 1, Grind: impl.MaxGrind}, s)
}

// A table of noughts and ones as a point has its own value there, and another table is not opened by its opening.
func TestOpenedAtItsPlaces(t *testing.T) {
	set, s := impl.Setting{Rate: 2, Queries: 4, Grind: 2}, impl.Source{State: hashed("openings")}
	for vars := 1; vars <= impl.MaxVars; vars++ {
		table := mixedExts(1 << vars)
		root := committed(t, table, set.Rate)
		for place, value := range table {
			point := placePoint(place, vars)
			o, end := openedTable(t, table, point, set, s)
			if then, code := impl.CheckOpening(root, vars, point, value, set, o, s); code != impl.OK || !sameSource(then, end) {
				t.Fatal(vars, "variables at place", place, code)
			}
			other := committed(t, extsWith(len(table), place, value), set.Rate)
			if then, code := impl.CheckOpening(other, vars, point, value, set, o, s); code != impl.ErrPath || !isNoSource(then) {
				t.Fatal(vars, "variables at place", place, "another table", code)
			}
		}
	}
}

func TestOpenedElsewhereIsRefused(t *testing.T) {
	set := impl.Setting{Rate: 2, Queries: 4, Grind: 2}
	for vars := 1; vars <= impl.MaxVars; vars++ {
		for j, s := range []impl.Source{{State: hashed("openings")}, {State: hashed("openings"), Script: mixedExts(9)}} {
			table, point := mixedExts(1<<vars), mixedExts(vars)
			root, value := committed(t, table, set.Rate), tableAt(t, table, point)
			o, _ := openedTable(t, table, point, set, s)
			for v := range point {
				elsewhere := slices.Clone(point)
				elsewhere[v] = extAdd(point[v], ext1)
				if then, code := impl.CheckOpening(root, vars, elsewhere, value, set, o, s); code != impl.ErrClaim || !isNoSource(then) {
					t.Error(vars, "source", j, "another element", v, code)
				}
			}
		}
	}
}

// plainBytes are the parts as chapter 10 says their order.
func plainBytes(o impl.Opening) []byte {
	b := bytesOf(slices.Concat(o.Rounds...))
	for _, root := range o.Roots {
		b = append(b, root...)
	}
	b = append(append(b, bytesOf([]impl.Ext{o.Last})...), fourBytes(o.Nonce)...)
	for _, q := range o.Queries {
		b = append(b, bytesOf(q.Pairs)...)
		for _, hash := range slices.Concat(q.Paths...) {
			b = append(b, hash...)
		}
	}
	return b
}

func plainSize(vars int, set impl.Setting) int {
	hashes := 0
	for word := 0; word < vars; word++ {
		hashes += vars + set.Rate - 1 - word
	}
	return 24*vars + 32*(vars-1) + 8 + 4 + set.Queries*(16*vars+32*hashes)
}

func TestOpeningIsReadBack(t *testing.T) {
	for vars := 1; vars <= impl.MaxVars; vars++ {
		for _, set := range someSettings() {
			for _, s := range openSources() {
				o, _ := openedTable(t, mixedExts(1<<vars), mixedExts(vars), set, s)
				b, code := impl.OpeningBytes(o, vars, set)
				if code != impl.OK || !slices.Equal(b, plainBytes(o)) {
					t.Fatal(vars, set, "bytes", len(b), code)
				}
				if size, code := impl.OpeningSize(vars, set); size != len(b) || code != impl.OK {
					t.Fatal(vars, set, "size", size, len(b), code)
				}
				if back, code := impl.ReadOpening(b, vars, set); !sameOpening(back, o) || code != impl.OK {
					t.Fatal(vars, set, "is not read back", code)
				}
			}
		}
	}
}

// What is read back need not have been made by OpenTable: hashes are any bytes, elements and nonces all in their bounds.
func TestAnyRightOpeningIsReadBack(t *testing.T) {
	for vars := 1; vars <= impl.MaxVars; vars++ {
		for i, set := range someSettings() {
			o := madeUp(vars, set)
			o.Nonce = []int{0, 1, 255, 256, 65534, 65535}[i%6]
			b, code := impl.OpeningBytes(o, vars, set)
			if !impl.OpeningOK(o, vars, set) || code != impl.OK || !slices.Equal(b, plainBytes(o)) {
				t.Fatal(vars, set, "bytes", len(b), code)
			}
			if back, code := impl.ReadOpening(b, vars, set); !sameOpening(back, o) || code != impl.OK {
				t.Fatal(vars, set, "is not read back", code)
			}
		}
	}
}

// madeUp is an opening of the right lengths, of edges and mixed bytes.
func madeUp(vars int, set impl.Setting) impl.Opening {
	edges, d := someExts(30), draws(uint64(vars))
	next := func(n int) []impl.Ext {
		list := make([]impl.Ext, n)
		for i := range list {
			list[i] = edges[d.next()%len(edges)]
		}
		return list
	}
	hashes := func(n int) []string {
		list := make([]string, n)
		for i := range list {
			list[i] = string(mixedBytes(32 + d.next()%9)[:32])
		}
		return list
	}
	o := impl.Opening{Roots: hashes(vars - 1), Last: next(1)[0], Nonce: d.next() % 65536}
	for range vars {
		o.Rounds = append(o.Rounds, next(3))
	}
	for range set.Queries {
		q := impl.Query{Pairs: next(2 * vars)}
		for word := range vars {
			q.Paths = append(q.Paths, hashes(vars+set.Rate-1-word))
		}
		o.Queries = append(o.Queries, q)
	}
	return o
}

func TestOpeningSize(t *testing.T) {
	for vars := 1; vars <= impl.MaxVars; vars++ {
		for rate := 1; rate <= impl.MaxRate; rate++ {
			for queries := 1; queries <= impl.MaxQueries; queries++ {
				for _, grind := range []int{0, 5, impl.MaxGrind} {
					set := impl.Setting{Rate: rate, Queries: queries, Grind: grind}
					if size, code := impl.OpeningSize(vars, set); size != plainSize(vars, set) || code != impl.OK {
						t.Error(vars, set, size, code)
					}
				}
			}
		}
	}
	if size, _ := impl.OpeningSize(6, impl.Setting{Rate: 3, Queries: 8}); size != 9532 {
		t.Error("the longest one", size)
	}
	if size, _ := impl.OpeningSize(1, impl.Setting{Rate: 1, Queries: 1}); size != 84 {
		t.Error("the shortest one", size)
	}
}
