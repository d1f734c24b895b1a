package tests

import (
	"fmt"
	"math"
	"slices"
	"strings"
	"testing"

	"loop.example/g00348/impl"
)

// Promise 1, of the calls that stand.

type call struct {
	name string
	does func() string
}

func told(values ...any) string { return fmt.Sprintln(values...) }

func textCalls() []call {
	var calls []call
	for i, text := range []string{"", "a", "ok", "zero", "no such word", "\x00\xff", "_9", strings.Repeat("a", 40), strings.Repeat("a", 41), strings.Repeat("h", 31), strings.Repeat("h", 32), strings.Repeat("h", 33), strings.Repeat("l", 64), strings.Repeat("l", 65), strings.Repeat("s", 199), strings.Repeat("s", 200), strings.Repeat("s", 201), strings.Repeat("x", impl.MaxText), strings.Repeat("x", impl.MaxText+1)} {
		calls = append(calls,
			call{fmt.Sprint("NameOK ", i), func() string { return told(impl.NameOK(text)) }},
			call{fmt.Sprint("CodeOf ", i), func() string { return told(impl.CodeOf(text)) }},
			call{fmt.Sprint("Permute ", i), func() string { return told(impl.Permute(text)) }},
			call{fmt.Sprint("HashText ", i), func() string { return told(impl.HashText(text)) }},
			call{fmt.Sprint("LeafHash ", i), func() string { return told(impl.LeafHash(text)) }},
			call{fmt.Sprint("NodeHash ", i), func() string { return told(impl.NodeHash(text, strings.Repeat("h", 32))) }},
			call{fmt.Sprint("NodeHash behind ", i), func() string { return told(impl.NodeHash(strings.Repeat("h", 32), text)) }},
			call{fmt.Sprint("CheckPath to ", i), func() string { return told(impl.CheckPath(text, 2, 1, "a", []string{text})) }},
			call{fmt.Sprint("CheckPath of ", i), func() string { return told(impl.CheckPath(hashed("\x00", text), 1, 0, text, nil)) }},
			call{fmt.Sprint("ExtractCollision of ", i), func() string {
				return told(impl.ExtractCollision(hashed("\x00", text), 1, 0, text, nil, text, nil))
			}},
		)
	}
	return calls
}

func numberCalls() []call {
	var calls []call
	list := append(append([]int{}, edgeNumbers...), wrongNumbers...)
	for _, a := range list {
		calls = append(calls,
			call{fmt.Sprint("CodeWord ", a), func() string { return told(impl.CodeWord(a)) }},
			call{fmt.Sprint("FieldOK ", a), func() string { return told(impl.FieldOK(a)) }},
			call{fmt.Sprint("Inverse ", a), func() string { return told(impl.Inverse(a)) }},
			call{fmt.Sprint("RootOf ", a), func() string { return told(impl.RootOf(a)) }},
			call{fmt.Sprint("KeccakCalls ", a), func() string { return told(impl.KeccakCalls(a)) }},
		)
		for _, b := range list {
			calls = append(calls,
				call{fmt.Sprint("Add ", a, b), func() string { return told(impl.Add(a, b)) }},
				call{fmt.Sprint("Sub ", a, b), func() string { return told(impl.Sub(a, b)) }},
				call{fmt.Sprint("Mul ", a, b), func() string { return told(impl.Mul(a, b)) }},
				call{fmt.Sprint("Pow ", a, b), func() string { return told(impl.Pow(a, b)) }},
			)
		}
	}
	return calls
}

func batchLists() [][]int {
	return [][]int{
		nil, {}, {0}, {1}, {2, 3, 5}, {1, 0, 2}, {1, prime, 2}, {math.MinInt, math.MaxInt}, edgeNumbers, wrongNumbers,
		numbersBut0(impl.MaxList), numbersBut0(impl.MaxList + 1),
	}
}

func extLists() [][]impl.Ext {
	return [][]impl.Ext{
		nil, {}, {ext0}, {ext1, extX}, {ext1, {B: prime}}, {{A: math.MinInt, B: math.MaxInt}}, someExts(5), wrongExts(),
		mixedExts(impl.MaxList), mixedExts(impl.MaxList + 1),
	}
}

func byteLists() [][]byte {
	return [][]byte{
		nil, {}, {7}, make([]byte, 8), make([]byte, 9), mixedBytes(135), mixedBytes(136), mixedBytes(137), mixedBytes(272), bytesOf(mixedExts(3)), []byte("\x7f\x00\x00\x01\x00\x00\x00\x00"), []byte("\xff\xff\xff\xff\xff\xff\xff\xff"),
		make([]byte, 8*impl.MaxList), make([]byte, 8*impl.MaxList+8), make([]byte, impl.MaxText), make([]byte, impl.MaxText+1),
	}
}

func listCalls() []call {
	var calls []call
	for i, list := range batchLists() {
		calls = append(calls, call{fmt.Sprint("BatchInverse ", i), func() string { return told(impl.BatchInverse(list)) }})
	}
	for i, b := range byteLists() {
		calls = append(calls,
			call{fmt.Sprint("ReadExts ", i), func() string { return told(impl.ReadExts(b)) }},
			call{fmt.Sprint("Keccak256 ", i), func() string { return told(impl.Keccak256(b)) }},
		)
	}
	for i, a := range extLists() {
		calls = append(calls, call{fmt.Sprint("ExtBytes ", i), func() string { return told(impl.ExtBytes(a)) }})
		for j, b := range extLists() {
			calls = append(calls, call{fmt.Sprint("ExtDot ", i, j), func() string { return told(impl.ExtDot(a, b)) }})
		}
	}
	return calls
}

// textLists are leaves, and paths of them.
func textLists() [][]string {
	return [][]string{
		nil, {}, {""}, {"a"}, {"a", "b", "", "d"}, make([]string, 3), {strings.Repeat("a", 65)}, {"", strings.Repeat("a", tooLong)},
		plainPath(mixedLeaves(8), 5), plainPath(mixedLeaves(256), 5), {strings.Repeat("h", 31)}, {strings.Repeat("h", 32)}, mixedLeaves(8), mixedLeaves(256), make([]string, 512),
		make([]string, impl.MaxList), make([]string, impl.MaxList+1),
	}
}

// treeAnswers asks everything about trees with a list as the leaves or as a path.
func treeAnswers(list []string, n, i int) string {
	root := plainRoot(mixedLeaves(8))
	return told(impl.MerklePath(list, i)) +
		told(impl.CheckPath(root, n, i, mixedLeaves(8)[5], list)) +
		told(impl.ExtractCollision(root, n, i, mixedLeaves(8)[5], list, mixedLeaves(8)[5], list))
}

func treeCalls() []call {
	var calls []call
	for l, list := range textLists() {
		calls = append(calls, call{fmt.Sprint("MerkleRoot ", l), func() string { return told(impl.MerkleRoot(list)) }})
		for _, n := range []int{0, 1, 3, 8, 256, 257, -1, math.MaxInt, math.MinInt} {
			for _, i := range []int{0, 5, 7, 8, -1, math.MaxInt, math.MinInt} {
				calls = append(calls, call{fmt.Sprint("trees ", l, n, i), func() string { return treeAnswers(list, n, i) }})
			}
		}
	}
	return calls
}

// scripts are of lengths that a source may have, and of others.
func scripts() [][]impl.Ext {
	return append(extLists(), mixedExts(1), mixedExts(2), mixedExts(63), mixedExts(64), mixedExts(65), extsWith(64, 63, impl.Ext{A: -1}))
}

// sourceAnswers asks everything of a source.
func sourceAnswers(s impl.Source, n, most int) string {
	return told(impl.SourceOK(s)) + told(impl.TakeOne(s)) + told(impl.TakeSome(s, n)) + told(impl.TakePlaces(s, n, most)) +
		told(impl.AbsorbText(s, "text")) + told(impl.AbsorbExts(s, s.Script)) +
		told(impl.GrindNonce(s, n)) + told(impl.CheckNonce(s, n, most))
}

func sourceCalls() []call {
	var calls []call
	for i, text := range []string{"", "a", strings.Repeat("l", 100), strings.Repeat("l", 101), strings.Repeat("x", impl.MaxText), strings.Repeat("x", tooLong)} {
		for j, s := range append(rightSources()[:5], wrongSources()[:5]...) {
			calls = append(calls, call{fmt.Sprint("AbsorbText ", i, j), func() string { return told(impl.AbsorbText(s, text)) }})
		}
		calls = append(calls, call{fmt.Sprint("NewSponge ", i), func() string { return told(impl.NewSponge(text)) }})
		for j, list := range scripts() {
			calls = append(calls, call{fmt.Sprint("NewScript ", i, j), func() string { return told(impl.NewScript(text, list)) }})
		}
	}
	sources := wrongSources()
	for i, list := range scripts() {
		calls = append(calls, call{fmt.Sprint("AbsorbExts ", i), func() string { return told(impl.AbsorbExts(rightSources()[i], list)) }})
		for _, used := range []int{0, allDraws - 1, allDraws} {
			sources = append(sources, impl.Source{Script: list, State: hashed("rules"), At: used}, impl.Source{Script: list, State: hashed("rules"), Count: used})
		}
	}
	for i, s := range sources {
		for _, n := range []int{0, 1, 5, 100, -1, math.MaxInt, math.MinInt} {
			for _, most := range []int{0, 1, 65535, 65536, 65537, -1, math.MaxInt, math.MinInt} {
				calls = append(calls, call{fmt.Sprint("sources ", i, n, most), func() string { return sourceAnswers(s, n, most) }})
			}
		}
	}
	return calls
}

// tableLists are tables and points, right ones and others.
func tableLists() [][]impl.Ext {
	lists := append(extLists(), extsWith(64, 63, impl.Ext{A: -1}), extsWith(6, 5, impl.Ext{B: prime}))
	for _, n := range []int{1, 2, 3, 4, 6, 7, 8, 9, 16, 32, 64, 65, 128} {
		lists = append(lists, mixedExts(n))
	}
	return lists
}

// tableAnswers asks everything about a list as a table, as a point or as values of a line.
func tableAnswers(list []impl.Ext, r impl.Ext) string {
	return told(impl.TableOK(list)) + told(impl.EqTable(list)) + told(impl.FoldTable(list, r)) +
		told(impl.CoefsOf(list)) + told(impl.TableOf(list)) + told(impl.LineAt(list, r))
}

func tableCalls() []call {
	var calls []call
	for i, a := range tableLists() {
		for _, r := range []impl.Ext{ext0, ext1, extX, {A: 3}, {A: -1}, {B: prime}, {A: math.MinInt, B: math.MaxInt}} {
			calls = append(calls, call{fmt.Sprint("tables ", i, r), func() string { return tableAnswers(a, r) }})
		}
		for j, b := range tableLists() {
			calls = append(calls,
				call{fmt.Sprint("EqAt ", i, j), func() string { return told(impl.EqAt(a, b)) }},
				call{fmt.Sprint("TableAt ", i, j), func() string { return told(impl.TableAt(a, b)) }},
			)
		}
	}
	return calls
}

// wordLists are words and coefficients, right ones and others.
func wordLists() [][]impl.Ext {
	lists := append(tableLists(), extsWith(512, 511, impl.Ext{A: -1}))
	for _, n := range []int{256, 511, 512, 513, 1024} {
		lists = append(lists, mixedExts(n))
	}
	return lists
}

// wordAnswers asks everything about a list as a word or as coefficients.
func wordAnswers(list []impl.Ext, rate int, r impl.Ext) string {
	return told(impl.Ntt(list)) + told(impl.InverseNtt(list)) + told(impl.EncodeWord(list, rate)) +
		told(impl.IsWord(list, rate)) + told(impl.FoldWord(list, r)) + told(impl.PolyAt(list, r))
}

func wordCalls() []call {
	var calls []call
	for _, r := range []impl.Ext{ext0, ext1, extX, {A: -1}, {A: math.MinInt, B: math.MaxInt}} {
		for i, list := range wordLists() {
			for _, rate := range []int{0, 1, 9, 10, -1, math.MaxInt, math.MinInt} {
				calls = append(calls, call{fmt.Sprint("words ", i, rate, r), func() string { return wordAnswers(list, rate, r) }})
			}
		}
		for _, n := range []int{0, 1, 2, 3, 8, 512, 1024, -1, math.MaxInt, math.MinInt} {
			for _, i := range []int{0, 1, 3, 4, 255, 256, -1, math.MaxInt, math.MinInt} {
				calls = append(calls, call{fmt.Sprint("FoldPair ", n, i, r), func() string {
					return told(impl.FoldPair(n, i, extX, ext1, r)) + told(impl.FoldPair(n, i, r, ext1, extX)) + told(impl.FoldPair(n, i, ext1, r, extX))
				}})
			}
		}
	}
	return calls
}

func elementCalls() []call {
	var calls []call
	list := append(someExts(0), wrongExts()...)
	for _, a := range list {
		calls = append(calls,
			call{fmt.Sprint("ExtOK ", a), func() string { return told(impl.ExtOK(a)) }},
			call{fmt.Sprint("ExtInverse ", a), func() string { return told(impl.ExtInverse(a)) }},
			call{fmt.Sprint("Norm ", a), func() string { return told(impl.Norm(a)) }},
		)
		for _, b := range list {
			calls = append(calls,
				call{fmt.Sprint("ExtAdd ", a, b), func() string { return told(impl.ExtAdd(a, b)) }},
				call{fmt.Sprint("ExtSub ", a, b), func() string { return told(impl.ExtSub(a, b)) }},
				call{fmt.Sprint("ExtMul ", a, b), func() string { return told(impl.ExtMul(a, b)) }},
			)
		}
		for _, n := range []int{0, 1, 2, 77, math.MaxInt, -1, math.MinInt} {
			calls = append(calls, call{fmt.Sprint("ExtPow ", a, n), func() string { return told(impl.ExtPow(a, n)) }})
		}
	}
	return calls
}

func answerOf(t *testing.T, c call) (answer string) {
	defer func() {
		if p := recover(); p != nil {
			t.Fatal(c.name, "panics:", p)
		}
	}()
	return c.does()
}

func TestAlikeArgumentsHaveAlikeAnswers(t *testing.T) {
	calls := slices.Concat(textCalls(), numberCalls(), listCalls(), treeCalls(), sourceCalls(), tableCalls(), wordCalls(), sumCalls(), openCalls(t), systemCalls(), circuitCalls(), proofCalls(), shownCalls(t), codecCalls(t), paramsCalls(), consoleCalls(t), elementCalls())
	first := make([]string, len(calls))
	for i, c := range calls {
		first[i] = answerOf(t, c)
	}
	for i := len(calls) - 1; i >= 0; i-- {
		if again := answerOf(t, calls[i]); again != first[i] {
			t.Error(calls[i].name, "answers", again, "behind other calls, first", first[i])
		}
	}
}

// roomy is a list with elements behind its end, and all of its memory.
func roomy[T any](list []T, behind T) ([]T, []T) {
	all := append(slices.Clone(list), behind, behind, behind, behind)
	return all[:len(list)], all
}

// keepsItsList holds a list, and what lies behind its end, against what it was ahead of a call.
func keepsItsList[T comparable](t *testing.T, name string, lists [][]T, behind T, does func(list []T)) {
	t.Helper()
	for i, list := range lists {
		given, all := roomy(list, behind)
		kept := slices.Clone(all)
		does(given)
		if !slices.Equal(all, kept) {
			t.Error(name, "changes list", i, "or what lies behind its end")
		}
	}
}

func TestNoCallChangesAnArgument(t *testing.T) {
	mark := impl.Ext{A: 11, B: 22}
	keepsItsList(t, "BatchInverse", batchLists(), 11, func(list []int) { impl.BatchInverse(list) })
	keepsItsList(t, "ReadExts", byteLists(), 11, func(b []byte) { impl.ReadExts(b) })
	keepsItsList(t, "Keccak256", byteLists(), 11, func(b []byte) { impl.Keccak256(b) })
	keepsItsList(t, "ExtBytes", extLists(), mark, func(list []impl.Ext) { impl.ExtBytes(list) })
	keepsItsList(t, "MerkleRoot", textLists(), "behind", func(list []string) { impl.MerkleRoot(list) })
	keepsItsList(t, "MerklePath, CheckPath, ExtractCollision", textLists(), "behind", func(list []string) { treeAnswers(list, 8, 5) })
	keepsItsList(t, "NewScript", scripts(), mark, func(list []impl.Ext) { impl.NewScript("label", list) })
	keepsItsList(t, "AbsorbExts", scripts(), mark, func(list []impl.Ext) { impl.AbsorbExts(spongeNamed(t, "label"), list) })
	for _, used := range []int{0, allDraws} {
		keepsItsList(t, "a source's call", scripts(), mark, func(list []impl.Ext) {
			sourceAnswers(impl.Source{Script: list, State: hashed("rules"), At: used}, 5, 9)
		})
	}
	keepsItsList(t, "a table's call", tableLists(), mark, func(list []impl.Ext) { tableAnswers(list, extX) })
	for _, rate := range []int{0, 1, 3, 10} {
		keepsItsList(t, "a word's call", wordLists(), mark, func(list []impl.Ext) { wordAnswers(list, rate, extX) })
	}
	for _, other := range tableLists() {
		keepsItsList(t, "EqAt, TableAt", tableLists(), mark, func(list []impl.Ext) {
			impl.EqAt(list, other)
			impl.EqAt(other, list)
			impl.TableAt(list, other)
			impl.TableAt(other, list)
		})
	}
	for _, other := range extLists() {
		keepsItsList(t, "ExtDot", extLists(), mark, func(list []impl.Ext) {
			impl.ExtDot(list, other)
			impl.ExtDot(other, list)
			impl.ExtDot(list, list)
		})
	}
}

// answersNewMemory writes into an answer, behind its end, and into the argument; nothing else is to follow.
func answersNewMemory[T, U comparable](t *testing.T, name string, lists [][]T, behind T, mark U, does func(list []T) ([]U, int)) {
	t.Helper()
	for i, list := range lists {
		given, all := roomy(list, behind)
		kept := slices.Clone(all)
		one, _ := does(given)
		two, _ := does(given)
		want := slices.Clone(two)
		one = one[:cap(one)]
		for j := range one {
			one[j] = mark
		}
		if !slices.Equal(all, kept) || !slices.Equal(two, want) {
			t.Error(name, "shares memory of list", i, "with an answer, or two answers share some")
		}
		for j := range all {
			all[j] = behind
		}
		if !slices.Equal(two, want) {
			t.Error(name, "answers memory of list", i)
		}
	}
}

func TestAnswersAreNewMemory(t *testing.T) {
	mark := impl.Ext{A: -5, B: -5}
	answersNewMemory(t, "BatchInverse", batchLists(), 11, -5, impl.BatchInverse)
	answersNewMemory(t, "ReadExts", byteLists(), 11, mark, impl.ReadExts)
	answersNewMemory(t, "ExtBytes", extLists(), mark, 99, impl.ExtBytes)
	answersNewMemory(t, "EqTable", tableLists(), mark, mark, impl.EqTable)
	answersNewMemory(t, "CoefsOf", tableLists(), mark, mark, impl.CoefsOf)
	answersNewMemory(t, "TableOf", tableLists(), mark, mark, impl.TableOf)
	for _, r := range []impl.Ext{ext0, ext1, extX} {
		answersNewMemory(t, "FoldTable", tableLists(), mark, mark, func(table []impl.Ext) ([]impl.Ext, int) { return impl.FoldTable(table, r) })
	}
	answersNewMemory(t, "Ntt", wordLists(), mark, mark, impl.Ntt)
	answersNewMemory(t, "InverseNtt", wordLists(), mark, mark, impl.InverseNtt)
	for _, rate := range []int{0, 1, 3} {
		answersNewMemory(t, "EncodeWord", wordLists(), mark, mark, func(coefs []impl.Ext) ([]impl.Ext, int) { return impl.EncodeWord(coefs, rate) })
	}
	for _, r := range []impl.Ext{ext0, ext1, extX} {
		answersNewMemory(t, "FoldWord", wordLists(), mark, mark, func(word []impl.Ext) ([]impl.Ext, int) { return impl.FoldWord(word, r) })
	}
	answersNewMemory(t, "MerklePath", textLists(), "behind", "mark", func(leaves []string) ([]string, int) { return impl.MerklePath(leaves, 0) })
}

// scriptsLeft are the calls that answer a source, of one with a script or of a list that becomes one.
func scriptsLeft() map[string]func(script []impl.Ext) impl.Source {
	source := func(script []impl.Ext, used int) impl.Source {
		return impl.Source{Script: script, State: hashed("rules"), At: used}
	}
	return map[string]func(script []impl.Ext) impl.Source{
		"NewScript":            func(list []impl.Ext) impl.Source { s, _ := impl.NewScript("label", list); return s },
		"AbsorbText":           func(list []impl.Ext) impl.Source { s, _ := impl.AbsorbText(source(list, 3), "text"); return s },
		"AbsorbExts":           func(list []impl.Ext) impl.Source { s, _ := impl.AbsorbExts(source(list, 3), list); return s },
		"TakeOne":              func(list []impl.Ext) impl.Source { s, _, _ := impl.TakeOne(source(list, 3)); return s },
		"TakeSome":             func(list []impl.Ext) impl.Source { s, _, _ := impl.TakeSome(source(list, 3), 5); return s },
		"TakeSome of none":     func(list []impl.Ext) impl.Source { s, _, _ := impl.TakeSome(source(list, 3), 0); return s },
		"TakePlaces":           func(list []impl.Ext) impl.Source { s, _, _ := impl.TakePlaces(source(list, 3), 5, 9); return s },
		"TakeOne of too many":  func(list []impl.Ext) impl.Source { s, _, _ := impl.TakeOne(source(list, allDraws)); return s },
		"TakeSome of too many": func(list []impl.Ext) impl.Source { s, _, _ := impl.TakeSome(source(list, allDraws), 5); return s },
		"TakePlaces of too many": func(list []impl.Ext) impl.Source {
			s, _, _ := impl.TakePlaces(source(list, allDraws), 5, 9)
			return s
		},
	}
}

func TestSourcesAreNewMemory(t *testing.T) {
	mark := impl.Ext{A: -5, B: -5}
	for name, does := range scriptsLeft() {
		answersNewMemory(t, name, scripts(), mark, mark, func(list []impl.Ext) ([]impl.Ext, int) { return does(list).Script, impl.OK })
	}
	answersNewMemory(t, "TakeSome's list", scripts(), mark, mark, func(list []impl.Ext) ([]impl.Ext, int) {
		_, drawn, code := impl.TakeSome(impl.Source{Script: list, State: hashed("rules")}, len(list)%100)
		return drawn, code
	})
}

// TestDrawnListsAreApart writes into what was drawn, and behind its end: the script is to stay.
func TestDrawnListsAreApart(t *testing.T) {
	for _, n := range []int{1, 3, 64} {
		script := mixedExts(n)
		after, drawn := someDraws(t, impl.Source{Script: script, State: hashed("rules")}, n)
		drawn = drawn[:cap(drawn)]
		for i := range drawn {
			drawn[i] = impl.Ext{A: -5}
		}
		if !slices.Equal(after.Script, script) {
			t.Error("what was drawn shares memory with the script of", n)
		}
	}
}

func emptyIsNil[T, U any](t *testing.T, name string, does func(list []T) ([]U, int)) {
	t.Helper()
	one, codeOne := does(nil)
	two, codeTwo := does([]T{})
	if len(one) != 0 || len(two) != 0 || codeOne != impl.OK || codeTwo != impl.OK {
		t.Error(name, one, two, codeOne, codeTwo)
	}
}

func TestEmptyListIsNil(t *testing.T) {
	emptyIsNil(t, "BatchInverse", impl.BatchInverse)
	emptyIsNil(t, "ReadExts", impl.ReadExts)
	emptyIsNil(t, "ExtBytes", impl.ExtBytes)
	if one, two := tableAnswers(nil, extX), tableAnswers([]impl.Ext{}, extX); one != two {
		t.Error("tables", one, two)
	}
	if one, two := wordAnswers(nil, 1, extX), wordAnswers([]impl.Ext{}, 1, extX); one != two {
		t.Error("words", one, two)
	}
	for _, list := range [][]impl.Ext{nil, {}, {ext1}, mixedExts(2)} {
		one := told(impl.EqAt(nil, list)) + told(impl.EqAt(list, nil)) + told(impl.TableAt(nil, list)) + told(impl.TableAt(list, nil))
		none := []impl.Ext{}
		two := told(impl.EqAt(none, list)) + told(impl.EqAt(list, none)) + told(impl.TableAt(none, list)) + told(impl.TableAt(list, none))
		if one != two {
			t.Error("tables and points", one, two)
		}
	}
	for name, does := range scriptsLeft() {
		if one, two := does(nil), does([]impl.Ext{}); !sameSource(one, two) || len(one.Script) != 0 {
			t.Error(name, one, two)
		}
	}
	for _, n := range []int{0, 1, 2} {
		if one, two := treeAnswers(nil, n, 0), treeAnswers([]string{}, n, 0); one != two {
			t.Error("trees of", n, one, two)
		}
	}
}
