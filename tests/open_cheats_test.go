package tests

import (
	"fmt"
	"slices"
	"testing"

	"loop.example/g00348/impl"
)

// Promise 10, of openings that are not those of their table: of one part changed by itself, and of words that are none.

// openAsked is what CheckOpening is handed.
type openAsked struct {
	root  string
	vars  int
	point []impl.Ext
	value impl.Ext
	set   impl.Setting
	o     impl.Opening
	s     impl.Source
}

// asks wants a code, with a source only if that is OK.
func (a openAsked) asks(t *testing.T, want int, what ...any) {
	t.Helper()
	then, code := impl.CheckOpening(a.root, a.vars, a.point, a.value, a.set, a.o, a.s)
	if code != want || isNoSource(then) != (want != impl.OK) {
		t.Error("CheckOpening of", a.vars, a.set, what, "has", code, "and a source", !isNoSource(then), "is to have", want)
	}
}

// rightAsked is an opening that is accepted, of elements that look mixed.
func rightAsked(t *testing.T, vars int, set impl.Setting, s impl.Source) openAsked {
	t.Helper()
	table, point := mixedExts(1<<vars), mixedExts(vars)
	o, _ := openedTable(t, table, point, set, s)
	a := openAsked{committed(t, table, set.Rate), vars, point, tableAt(t, table, point), set, o, s}
	a.asks(t, impl.OK)
	return a
}

// copied shares no list with o.
func copied(o impl.Opening) impl.Opening {
	rounds, queries := make([][]impl.Ext, len(o.Rounds)), make([]impl.Query, len(o.Queries))
	for i, round := range o.Rounds {
		rounds[i] = slices.Clone(round)
	}
	for i, q := range o.Queries {
		queries[i].Pairs = slices.Clone(q.Pairs)
		for _, path := range q.Paths {
			queries[i].Paths = append(queries[i].Paths, slices.Clone(path))
		}
	}
	o.Rounds, o.Roots, o.Queries = rounds, slices.Clone(o.Roots), queries
	return o
}

// changed is the same with something done to a copy of the opening.
func (a openAsked) changed(does func(o *impl.Opening)) openAsked {
	a.o = copied(a.o)
	does(&a.o)
	return a
}

func cheatSources() []impl.Source {
	state := hashed("cheats")
	return []impl.Source{{State: state}, {State: state, Script: mixedExts(13)}}
}

// A round is refused by its sum or by the next one's; the last one's third element by the last claim.
func TestRoundsThatAreChanged(t *testing.T) {
	set := impl.Setting{Rate: 2, Queries: 2, Grind: 3}
	for vars := 1; vars <= impl.MaxVars; vars++ {
		for _, s := range cheatSources() {
			a := rightAsked(t, vars, set, s)
			for at := range vars {
				for place := range 3 {
					want := impl.ErrSum
					if place == 2 && at == vars-1 {
						want = impl.ErrClaim
					}
					for _, other := range otherExts(a.o.Rounds[at][place]) {
						a.changed(func(o *impl.Opening) { o.Rounds[at][place] = other }).asks(t, want, "round", at, place)
					}
				}
				both := a.changed(func(o *impl.Opening) {
					o.Rounds[at][0], o.Rounds[at][1] = extAdd(o.Rounds[at][0], ext1), extSub(o.Rounds[at][1], ext1)
				})
				if at < vars-1 {
					both.asks(t, impl.ErrSum, "two of round", at)
				} else {
					both.asks(t, impl.ErrClaim, "two of the last round")
				}
			}
		}
	}
}

// A root is taken in ahead of the next round's draw: a sponge draws otherwise there. A script does not, but what its leaves lead to is another root.
func TestRootsThatAreChanged(t *testing.T) {
	for vars := 2; vars <= impl.MaxVars; vars++ {
		for i, s := range cheatSources() {
			a := rightAsked(t, vars, impl.Setting{Rate: 1, Queries: 2}, s)
			for at := range vars - 1 {
				want := impl.ErrPath
				if i == 0 && at < vars-2 {
					want = impl.ErrSum
				} else if i == 0 {
					want = impl.ErrClaim
				}
				for _, other := range []string{turned(a.o.Roots[at], 0), turned(a.o.Roots[at], 255), hashed("x"), a.root} {
					a.changed(func(o *impl.Opening) { o.Roots[at] = other }).asks(t, want, "root", at)
				}
			}
		}
	}
}

func TestFirstRootThatIsChanged(t *testing.T) {
	for vars := 1; vars <= impl.MaxVars; vars++ {
		for _, s := range cheatSources() {
			a := rightAsked(t, vars, impl.Setting{Rate: 1, Queries: 2, Grind: 1}, s)
			for _, other := range []string{"", "x", a.root[:31], a.root + "x", turned(a.root, 7), hashed("x"), string(mixedBytes(impl.MaxText))} {
				b := a
				b.root = other
				b.asks(t, impl.ErrPath, "a root of", len(other))
			}
		}
	}
}

func TestLastThatIsChanged(t *testing.T) {
	for vars := 1; vars <= impl.MaxVars; vars++ {
		for _, s := range cheatSources() {
			a := rightAsked(t, vars, impl.Setting{Rate: 1, Queries: 2, Grind: 4}, s)
			for _, other := range otherExts(a.o.Last) {
				a.changed(func(o *impl.Opening) { o.Last = other }).asks(t, impl.ErrClaim, "last", other)
			}
		}
	}
}

// grindState is the source that an opening's nonce is looked for in.
func grindState(t *testing.T, a openAsked) impl.Source {
	t.Helper()
	s := a.s
	for i, round := range a.o.Rounds {
		s, _ = someDraws(t, takenExts(t, s, round...), 1)
		if i < len(a.o.Roots) {
			s = taken(t, s, a.o.Roots[i])
		}
	}
	return takenExts(t, s, a.o.Last)
}

func TestNonceThatIsChanged(t *testing.T) {
	for vars := 1; vars <= impl.MaxVars; vars++ {
		for _, grind := range []int{1, 3, 6} {
			for _, s := range cheatSources() {
				a := rightAsked(t, vars, impl.Setting{Rate: 1, Queries: 3, Grind: grind}, s)
				ground := grindState(t, a)
				for nonce := range 200 {
					if b := a.changed(func(o *impl.Opening) { o.Nonce = nonce }); !plainNonceDoes(ground.State, grind, nonce) {
						b.asks(t, impl.ErrGrind, "nonce", nonce)
					} else if _, code := impl.CheckOpening(b.root, vars, b.point, b.value, b.set, b.o, s); code == impl.ErrGrind {
						t.Error(vars, grind, "nonce", nonce, "does")
					}
				}
			}
		}
	}
}

// Of no bits any nonce does. It is taken in: a sponge asks for other places then, and a script has another state behind it.
func TestNonceOfNoBitsIsTakenIn(t *testing.T) {
	sponge, script := cheatSources()[0], cheatSources()[1]
	a := rightAsked(t, 6, impl.Setting{Rate: 3, Queries: 8}, sponge)
	a.changed(func(o *impl.Opening) { o.Nonce = 1 }).asks(t, impl.ErrPath, "another nonce")
	a = rightAsked(t, 6, impl.Setting{Rate: 3, Queries: 8}, script)
	for _, nonce := range []int{1, 256, 65535} {
		b := a.changed(func(o *impl.Opening) { o.Nonce = nonce })
		b.asks(t, impl.OK, "another nonce")
		want := taken(t, grindState(t, a), fourBytes(nonce))
		then, _ := impl.CheckOpening(b.root, b.vars, b.point, b.value, b.set, b.o, b.s)
		if then.State != want.State || then.At != 6+8 || then.Count != 0 {
			t.Error("nonce", nonce, "is not taken in")
		}
	}
}

// Each element and each hash of each word: the leaf leads elsewhere.
func TestQueriesThatAreChanged(t *testing.T) {
	for vars := 1; vars <= impl.MaxVars; vars++ {
		for _, set := range []impl.Setting{{Rate: 1, Queries: 1}, {Rate: 3, Queries: 2, Grind: 2}} {
			for _, s := range cheatSources() {
				a := rightAsked(t, vars, set, s)
				for i, q := range a.o.Queries {
					for place, element := range q.Pairs {
						other := extAdd(element, extX)
						a.changed(func(o *impl.Opening) { o.Queries[i].Pairs[place] = other }).asks(t, impl.ErrPath, "query", i, "element", place)
					}
					for word, path := range q.Paths {
						for up := range path {
							other := turned(path[up], 8*up+word)
							a.changed(func(o *impl.Opening) { o.Queries[i].Paths[word][up] = other }).asks(t, impl.ErrPath, "query", i, "path", word, up)
						}
						a.changed(func(o *impl.Opening) {
							p := o.Queries[i].Pairs[2*word:]
							p[0], p[1] = p[1], p[0]
						}).asks(t, impl.ErrPath, "query", i, "word", word, "turned")
					}
				}
			}
		}
	}
}

// An opening answers the places that are asked for, in their order.
func TestQueriesOfOtherPlaces(t *testing.T) {
	script := append(mixedExts(2), elements(0, 1, 2, 3, 5, 6, 7, 4)...)
	a := rightAsked(t, 2, impl.Setting{Rate: 2, Queries: 8}, impl.Source{State: hashed("cheats"), Script: script})
	for i := range 8 {
		for j := range i {
			a.changed(func(o *impl.Opening) { o.Queries[i], o.Queries[j] = o.Queries[j], o.Queries[i] }).asks(t, impl.ErrPath, "queries", i, j)
			a.changed(func(o *impl.Opening) { o.Queries[i] = o.Queries[j] }).asks(t, impl.ErrPath, "queries", i, j)
		}
	}
}

// asking is a source that draws what a sum's rounds are answered by, then the places.
func asking(vars int, places ...int) impl.Source {
	return impl.Source{State: hashed("cheats"), Script: append(mixedExts(vars), elements(places...)...)}
}

// whichCode is what a query at a place is refused for, by the words as they were committed: the folded value has to stand in the next word at the place that is left.
func whichCode(w showing, place int) int {
	fold := ext0
	for i, word := range w.words {
		half := len(word) / 2
		if i > 0 && word[place%len(word)] != fold {
			return impl.ErrFold
		}
		fold = mustExt(impl.FoldPair(len(word), place%half, word[place%half], word[place%half+half], w.drawn[i]))
	}
	if fold != w.o.Last {
		return impl.ErrLast
	}
	return impl.OK
}

// Each element of each word, each place that may be asked for: who cheats is told if the way down comes by.
func TestWordsThatAreNone(t *testing.T) {
	for vars := 1; vars <= 4; vars++ {
		for rate := 1; vars+rate <= 5 && rate <= 3; rate++ {
			codes := map[int]int{}
			for word := range vars {
				for place := range 1 << (vars + rate - word) {
					for _, folded := range []bool{false, true} {
						asksWhoCheats(t, vars, rate, cheat{word, place, folded}, codes)
					}
				}
			}
			if codes[impl.OK] == 0 || codes[impl.ErrLast] == 0 || vars > 1 && codes[impl.ErrFold] == 0 {
				t.Error(vars, "variables at rate", rate, "have codes", codes)
			}
		}
	}
}

func asksWhoCheats(t *testing.T, vars, rate int, c cheat, codes map[int]int) {
	t.Helper()
	table, point := mixedExts(1<<vars), mixedExts(vars)
	set := impl.Setting{Rate: rate, Queries: 1}
	w := shown(t, table, point, set, asking(vars, 0), c)
	for place := range 1 << (vars + rate - 1) {
		// The words of a script do not hang on the places that it draws behind them.
		w.o.Queries = []impl.Query{w.answer(t, place)}
		want := whichCode(w, place)
		codes[want]++
		openAsked{w.root, vars, point, tableAt(t, table, point), set, w.o, asking(vars, place)}.asks(t, want, c, "at", place)
	}
}

// The one of a pair that is held against the fold is the one at the place: the other one may be any, and is then told by what its pair folds to.
func TestWhichOneOfAPairIsHeld(t *testing.T) {
	table, point, set := mixedExts(8), mixedExts(3), impl.Setting{Rate: 1, Queries: 1}
	for i, c := range []struct {
		place, word, at int
		code            int
	}{
		// The words have 16, 8 and 4 elements, the place 5 is 5 of the first one's leaves, 1 of the second one's, 1 of the third one's.
		{5, 0, 5, impl.ErrFold}, {5, 0, 13, impl.ErrFold}, {5, 0, 4, impl.OK},
		{5, 1, 5, impl.ErrFold}, {5, 1, 1, impl.ErrFold}, {5, 1, 4, impl.OK},
		{5, 2, 1, impl.ErrFold}, {5, 2, 3, impl.ErrLast}, {5, 2, 0, impl.OK}, {5, 2, 2, impl.OK},
		// The place 2 is 2, 2 and 0: in the second word it stands in the nearer half, in the third one in the farther.
		{2, 1, 2, impl.ErrFold}, {2, 1, 6, impl.ErrFold}, {2, 2, 2, impl.ErrFold}, {2, 2, 0, impl.ErrLast}, {2, 2, 1, impl.OK},
	} {
		s := asking(3, c.place)
		w := shown(t, table, point, set, s, cheat{word: c.word, place: c.at})
		openAsked{w.root, 3, point, tableAt(t, table, point), set, w.o, s}.asks(t, c.code, "case", i)
	}
	// Folded on, the other one of a pair comes out behind the last word alone, and the one at the place at once.
	for i, c := range []struct{ place, word, at, code int }{
		{5, 0, 5, impl.ErrLast}, {5, 0, 13, impl.ErrLast}, {5, 1, 1, impl.ErrLast}, {5, 1, 5, impl.ErrFold}, {5, 2, 3, impl.ErrLast}, {5, 2, 1, impl.ErrFold},
		{2, 1, 2, impl.ErrFold}, {2, 1, 6, impl.ErrLast}, {2, 2, 2, impl.ErrFold}, {2, 2, 0, impl.ErrLast},
	} {
		s := asking(3, c.place)
		w := shown(t, table, point, set, s, cheat{c.word, c.at, true})
		openAsked{w.root, 3, point, tableAt(t, table, point), set, w.o, s}.asks(t, c.code, "folded on, case", i)
	}
}

// In one word the path is told ahead of the fold; a word ahead of the next one; a query, to its last value, ahead of the next one.
func TestQueriesInTurn(t *testing.T) {
	table, point, set := mixedExts(8), mixedExts(3), impl.Setting{Rate: 1, Queries: 2}
	spoilt := func(c cheat, places []int, query, word int) openAsked {
		s := asking(3, places...)
		w := shown(t, table, point, set, s, c)
		w.o.Queries[query].Paths[word][0] = hashed("x")
		return openAsked{w.root, 3, point, tableAt(t, table, point), set, w.o, s}
	}
	fold, last := cheat{word: 1, place: 5}, cheat{word: 2, place: 3}
	for i, c := range []struct {
		cheat       cheat
		places      []int
		query, word int
		code        int
	}{
		{fold, []int{5, 0}, 0, 0, impl.ErrPath}, {fold, []int{5, 0}, 0, 1, impl.ErrPath}, {fold, []int{5, 0}, 0, 2, impl.ErrFold},
		{fold, []int{5, 0}, 1, 0, impl.ErrFold}, {fold, []int{0, 5}, 0, 2, impl.ErrPath}, {fold, []int{0, 5}, 1, 0, impl.ErrPath}, {fold, []int{0, 5}, 1, 2, impl.ErrFold},
		{last, []int{5, 0}, 0, 2, impl.ErrPath}, {last, []int{5, 0}, 1, 0, impl.ErrLast}, {last, []int{0, 5}, 0, 0, impl.ErrPath}, {last, []int{0, 5}, 1, 2, impl.ErrPath},
		{honest, []int{0, 5}, 1, 2, impl.ErrPath},
	} {
		spoilt(c.cheat, c.places, c.query, c.word).asks(t, c.code, "case", i)
	}
}

// Some of a sponge's places come by a word that is none: of so many queries one does.
func TestWordsThatAreNoneOfASponge(t *testing.T) {
	set := impl.Setting{Rate: 1, Queries: 8, Grind: 2}
	for vars := 1; vars <= 3; vars++ {
		table, point, refused := mixedExts(1<<vars), mixedExts(vars), 0
		for i := range 20 {
			s := spongeNamed(t, fmt.Sprint(i))
			w := shown(t, table, point, set, s, cheat{vars - 1, i % 4, i%2 == 0})
			want := impl.OK
			for _, place := range w.places {
				if code := whichCode(w, place); want == impl.OK {
					want = code
				}
			}
			openAsked{w.root, vars, point, tableAt(t, table, point), set, w.o, s}.asks(t, want, "sponge", i)
			if want != impl.OK {
				refused++
			}
		}
		if refused == 0 {
			t.Error(vars, "variables: none of them is refused")
		}
	}
}

// The sum comes first, then the last claim, the nonce, the queries.
func TestCheckOpeningGoesDown(t *testing.T) {
	faults := []struct {
		code int
		does func(a *openAsked)
	}{
		{impl.ErrSum, func(a *openAsked) { a.value = extAdd(a.value, ext1) }},
		{impl.ErrSum, func(a *openAsked) { a.o.Rounds[1][0] = extAdd(a.o.Rounds[1][0], ext1) }},
		{impl.ErrClaim, func(a *openAsked) { a.o.Rounds[2][2] = extAdd(a.o.Rounds[2][2], ext1) }},
		{impl.ErrClaim, func(a *openAsked) { a.o.Last = extAdd(a.o.Last, ext1) }},
		{impl.ErrClaim, func(a *openAsked) { a.point = mixedExts(9)[6:] }},
		{impl.ErrGrind, func(a *openAsked) { a.o.Nonce = noNonce(grindState(t, *a), a.set.Grind) }},
		{impl.ErrPath, func(a *openAsked) { a.root = hashed("x") }},
		{impl.ErrPath, func(a *openAsked) { a.o.Queries[0].Pairs[1] = extAdd(a.o.Queries[0].Pairs[1], ext1) }},
		{impl.ErrPath, func(a *openAsked) { a.o.Queries[2].Paths[2][2] = hashed("x") }},
	}
	for _, s := range cheatSources() {
		right := rightAsked(t, 3, impl.Setting{Rate: 3, Queries: 3, Grind: 3}, s)
		for i, first := range faults {
			for _, second := range faults[i:] {
				a := right.changed(func(*impl.Opening) {})
				first.does(&a)
				second.does(&a)
				a.asks(t, first.code, "faults", first.code, second.code)
			}
		}
	}
}

// noNonce is one that does not do.
func noNonce(s impl.Source, bits int) int {
	nonce := 0
	for plainNonceDoes(s.State, bits, nonce) {
		nonce++
	}
	return nonce
}
