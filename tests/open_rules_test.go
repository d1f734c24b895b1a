package tests

import (
	"fmt"
	"math"
	"slices"
	"strings"
	"testing"

	"loop.example/g00348/impl"
)

// Promise 1, of openings: their arguments and answers are structs of lists of lists.

// openAnswers asks everything about an opening and what goes with it.
func openAnswers(a openAsked, table []impl.Ext) string {
	b, code := impl.OpeningBytes(a.o, a.vars, a.set)
	return told(impl.SettingOK(a.set)) + told(impl.OpeningOK(a.o, a.vars, a.set)) + told(b, code) +
		told(impl.CommitTable(table, a.set.Rate)) + told(impl.OpenTable(table, a.point, a.set, a.s)) +
		told(impl.CheckOpening(a.root, a.vars, a.point, a.value, a.set, a.o, a.s)) +
		told(impl.ReadOpening(b, a.vars, a.set)) + told(impl.OpeningSize(a.vars, a.set))
}

// openChanges do something wrong, or nothing.
func openChanges() []func(a *openAsked) {
	list := []func(a *openAsked){func(*openAsked) {}}
	for _, f := range checkFaults() {
		list = append(list, f.does)
	}
	for _, n := range []int{math.MaxInt, math.MinInt, 63, 64, -1} {
		list = append(list,
			func(a *openAsked) { a.vars = n },
			func(a *openAsked) { a.set.Rate = n },
			func(a *openAsked) { a.set.Queries = n },
			func(a *openAsked) { a.set.Grind = n },
			func(a *openAsked) { a.o.Nonce = n },
			func(a *openAsked) { a.value.A = n },
			func(a *openAsked) { a.s.Count = n },
		)
	}
	return append(list, func(a *openAsked) { a.o = impl.Opening{} }, func(a *openAsked) { a.s = impl.Source{} }, func(a *openAsked) { *a = openAsked{} })
}

func openCalls(t *testing.T) []call {
	t.Helper()
	var calls []call
	for j, s := range cheatSources() {
		right := rightAsked(t, 3, rightSetting, s)
		for i, does := range openChanges() {
			a := right.changed(func(*impl.Opening) {})
			does(&a)
			for _, n := range []int{0, 1, 3, 8, 64, longList} {
				calls = append(calls, call{fmt.Sprint("openings ", i, j, n), func() string { return openAnswers(a, mixedExts(n)) }})
			}
		}
		for name, o := range notOpenings(right.o) {
			a := right
			a.o = o
			calls = append(calls, call{"openings, " + name, func() string { return openAnswers(a, mixedExts(8)) }})
		}
	}
	for i, b := range append(byteLists(), plainBytes(madeUp(3, rightSetting))) {
		for _, vars := range []int{3, 1, 0, 7, math.MaxInt, math.MinInt} {
			for j, set := range []impl.Setting{rightSetting, {}, {Rate: 1, Queries: 1}} {
				calls = append(calls, call{fmt.Sprint("ReadOpening ", i, vars, j), func() string { return told(impl.ReadOpening(b, vars, set)) }})
			}
		}
	}
	return calls
}

// listsIn are all lists of elements, and all lists of texts, of an opening.
func listsIn(o impl.Opening) ([][]impl.Ext, [][]string) {
	elements, texts := slices.Clone(o.Rounds), [][]string{o.Roots}
	for _, q := range o.Queries {
		elements, texts = append(elements, q.Pairs), append(texts, q.Paths...)
	}
	return elements, texts
}

// roomyOpening is the opening with more behind the end of each list.
func roomyOpening(o impl.Opening) impl.Opening {
	o = copied(o)
	for i := range o.Rounds {
		o.Rounds[i], _ = roomy(o.Rounds[i], extX)
	}
	for i, q := range o.Queries {
		for word := range q.Paths {
			q.Paths[word], _ = roomy(q.Paths[word], "behind")
		}
		o.Queries[i].Pairs, _ = roomy(q.Pairs, extX)
		o.Queries[i].Paths, _ = roomy(q.Paths, []string{"behind"})
	}
	o.Rounds, _ = roomy(o.Rounds, []impl.Ext{extX})
	o.Roots, _ = roomy(o.Roots, "behind")
	o.Queries, _ = roomy(o.Queries, impl.Query{})
	return o
}

// allIn is all that an opening's lists have, behind their ends too.
func allIn(o impl.Opening) string {
	var text strings.Builder
	for _, round := range o.Rounds[:cap(o.Rounds)] {
		text.WriteString(told(round[:cap(round)]))
	}
	text.WriteString(told(o.Roots[:cap(o.Roots)], o.Last, o.Nonce))
	for _, q := range o.Queries[:cap(o.Queries)] {
		text.WriteString(told(q.Pairs[:cap(q.Pairs)]))
		for _, path := range q.Paths[:cap(q.Paths)] {
			text.WriteString(told(path[:cap(path)]))
		}
	}
	return text.String()
}

func TestOpeningsChangeNoArgument(t *testing.T) {
	for _, s := range cheatSources() {
		right := rightAsked(t, 3, rightSetting, s)
		for i, does := range openChanges() {
			a := right.changed(func(*impl.Opening) {})
			does(&a)
			var point, script, table []impl.Ext
			a.o = roomyOpening(a.o)
			a.point, point = roomy(a.point, extX)
			a.s.Script, script = roomy(a.s.Script, extX)
			given, table := roomy(mixedExts(8), extX)
			kept, keptPoint, keptScript, keptTable := allIn(a.o), slices.Clone(point), slices.Clone(script), slices.Clone(table)
			openAnswers(a, given)
			if allIn(a.o) != kept || !slices.Equal(point, keptPoint) || !slices.Equal(script, keptScript) || !slices.Equal(table, keptTable) {
				t.Error("case", i, "is changed, or what lies behind the ends of its lists")
			}
		}
	}
	lists := append(byteLists(), plainBytes(madeUp(3, rightSetting)))
	keepsItsList(t, "ReadOpening", lists, 11, func(b []byte) { impl.ReadOpening(b, 3, rightSetting) })
}

// textsShareNone is as sharesNone is, of texts.
func textsShareNone(list []string, others [][]string) bool {
	var kept [][]string
	for _, other := range others {
		kept = append(kept, slices.Clone(other[:cap(other)]))
	}
	all := list[:cap(list)]
	held := slices.Clone(all)
	for i := range all {
		all[i] = "overwritten"
	}
	apart := true
	for i, other := range others {
		apart = apart && slices.Equal(other[:cap(other)], kept[i])
	}
	copy(all, held)
	return apart
}

// asksApart wants that no two lists share memory.
func asksApart(t *testing.T, elements [][]impl.Ext, texts [][]string, what ...any) {
	t.Helper()
	for i := range elements {
		if !sharesNone(elements[i], slices.Concat(elements[:i], elements[i+1:])) {
			t.Fatal(what, "list", i, "of elements shares memory")
		}
	}
	for i := range texts {
		if !textsShareNone(texts[i], slices.Concat(texts[:i], texts[i+1:])) {
			t.Fatal(what, "list", i, "of texts shares memory")
		}
	}
}

// A script of one place asks for the same leaf over and over.
func TestOpeningsAreNewMemory(t *testing.T) {
	for _, vars := range []int{1, 2, 4, 6} {
		for j, s := range openSources() {
			set := impl.Setting{Rate: 1, Queries: 4, Grind: 1}
			table, point := mixedExts(1<<vars), mixedExts(vars)
			o, end := openedTable(t, table, point, set, s)
			again, endAgain := openedTable(t, table, point, set, s)
			then, _ := impl.CheckOpening(committed(t, table, 1), vars, point, tableAt(t, table, point), set, o, s)
			back, _ := impl.ReadOpening(plainBytes(o), vars, set)
			elements, texts := listsIn(o)
			for _, other := range []impl.Opening{again, back} {
				e, x := listsIn(other)
				elements, texts = append(elements, e...), append(texts, x...)
			}
			asksApart(t, append(elements, table, point, s.Script, end.Script, endAgain.Script, then.Script), texts, vars, "source", j)
		}
	}
}

// The outer lists of an answer are new as well.
func TestPartsAreNewLists(t *testing.T) {
	s := impl.Source{State: hashed("rules"), Script: []impl.Ext{ext1}}
	one, _ := openedTable(t, mixedExts(8), mixedExts(3), rightSetting, s)
	two, _ := openedTable(t, mixedExts(8), mixedExts(3), rightSetting, s)
	want := copied(two)
	for i := range one.Queries {
		for word := range one.Queries[i].Paths {
			one.Queries[i].Paths[word] = nil
		}
		for _, q := range one.Queries[i+1:] {
			if slices.ContainsFunc(q.Paths, func(path []string) bool { return path == nil }) {
				t.Error("two queries share their paths")
			}
		}
		one.Queries[i] = impl.Query{}
	}
	for i := range one.Rounds {
		one.Rounds[i] = nil
	}
	if !sameOpening(two, want) {
		t.Error("two openings share a list")
	}
}

func TestBytesAreNewMemory(t *testing.T) {
	o := madeUp(3, rightSetting)
	one, _ := impl.OpeningBytes(o, 3, rightSetting)
	two, _ := impl.OpeningBytes(o, 3, rightSetting)
	back, _ := impl.ReadOpening(one, 3, rightSetting)
	clear(one[:cap(one)])
	if !slices.Equal(two, plainBytes(o)) || !sameOpening(back, o) {
		t.Error("bytes are shared")
	}
}

func TestEmptyPartsAreNil(t *testing.T) {
	none, some := impl.Opening{}, impl.Opening{Rounds: [][]impl.Ext{}, Roots: []string{}, Queries: []impl.Query{}}
	a := openAsked{root: hashed("x"), vars: 1, set: impl.Setting{Rate: 1, Queries: 1}, o: none, s: impl.Source{State: hashed("x")}}
	b := a
	b.o, b.point, b.s.Script = some, []impl.Ext{}, []impl.Ext{}
	if one, two := openAnswers(a, nil), openAnswers(b, []impl.Ext{}); one != two {
		t.Error(one, two)
	}
	if one, two := told(impl.ReadOpening(nil, 1, a.set)), told(impl.ReadOpening([]byte{}, 1, a.set)); one != two {
		t.Error("ReadOpening", one, two)
	}
	c := rightAsked(t, 1, a.set, a.s)
	d := c
	d.o.Roots, d.s.Script = append([]string{}, c.o.Roots...), []impl.Ext{}
	c.o.Roots = nil
	if one, two := openAnswers(c, mixedExts(2)), openAnswers(d, mixedExts(2)); one != two {
		t.Error("one variable", one, two)
	}
	c.asks(t, impl.OK, "nil roots")
	d.asks(t, impl.OK, "empty roots")
}
