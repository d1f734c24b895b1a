package tests

import (
	"fmt"
	"math"
	"slices"
	"testing"

	"loop.example/g00348/impl"
)

// Promise 1, of sums: their arguments and answers are lists of lists, too.

// sumLists are tables for a sum or rounds of one, right ones and others.
func sumLists() [][][]impl.Ext {
	lists := [][][]impl.Ext{nil, {}, {nil}, {nil, {}}, {{ext1}, {ext1}}, make([][]impl.Ext, 4), make([][]impl.Ext, longList)}
	for _, k := range sumKinds {
		for _, vars := range []int{0, 1, 2, 6} {
			tables := mixedSum(k, vars)
			rounds, _, _, _, _ := impl.SumProve(k.kind, tables, impl.Source{State: hashed("rules")})
			lists = append(lists, tables, rounds, tables[1:], append(slices.Clone(tables[1:]), mixedExts(3)), append(slices.Clone(rounds), mixedExts(9)), append(slices.Clone(tables[1:]), extsWith(1<<vars, 0, badExt)))
		}
		for _, n := range []int{0, 1, 6} {
			lists = append(lists, slices.Repeat([][]impl.Ext{make([]impl.Ext, k.degree+1)}, n))
		}
	}
	return lists
}

// sumAnswers asks everything about lists as tables and as rounds.
func sumAnswers(kind int, lists [][]impl.Ext, s impl.Source) string {
	answer := told(impl.SumOf(kind, lists)) + told(impl.RoundOf(kind, lists)) + told(impl.SumProve(kind, lists, s))
	for _, vars := range []int{len(lists), 0, 7, -1, math.MaxInt, math.MinInt} {
		for _, claim := range []impl.Ext{ext0, firstTwo(lists), {A: -1}} {
			answer += told(impl.SumVerify(kind, claim, lists, vars, s))
		}
	}
	for _, list := range lists {
		answer += told(impl.Combine(kind, list))
	}
	return answer
}

// firstTwo is the claim that the first round sums to, if it does.
func firstTwo(rounds [][]impl.Ext) impl.Ext {
	if len(rounds) == 0 || len(rounds[0]) < 2 {
		return ext1
	}
	sum, _ := impl.ExtAdd(rounds[0][0], rounds[0][1])
	return sum
}

func ruleSources() []impl.Source {
	state := hashed("rules")
	return []impl.Source{{State: state}, {State: state, Script: mixedExts(3), At: 2}, {State: state, Script: mixedExts(3), At: allDraws - 5}, {State: "none"}}
}

func sumCalls() []call {
	var calls []call
	for _, kind := range []int{impl.SuProduct, impl.SuGate, 0, 3, math.MinInt, math.MaxInt} {
		calls = append(calls, call{fmt.Sprint("DegreeOf ", kind), func() string { return told(impl.DegreeOf(kind)) }})
		for i, lists := range sumLists() {
			for j, s := range ruleSources() {
				calls = append(calls, call{fmt.Sprint("sums ", kind, i, j), func() string { return sumAnswers(kind, lists, s) }})
			}
		}
	}
	return calls
}

// roomyLists are lists of lists with more lists, and more elements, behind their ends, and all of their memory.
func roomyLists(lists [][]impl.Ext, behind impl.Ext) ([][]impl.Ext, [][]impl.Ext) {
	all := make([][]impl.Ext, 0, len(lists)+2)
	for _, list := range lists {
		given, _ := roomy(list, behind)
		all = append(all, given)
	}
	all = append(all, []impl.Ext{behind}, []impl.Ext{behind})
	return all[:len(lists)], all
}

// allOf are copies of the lists with what lies behind their ends.
func allOf(lists [][]impl.Ext) [][]impl.Ext {
	var all [][]impl.Ext
	for _, list := range lists {
		all = append(all, slices.Clone(list[:cap(list)]))
	}
	return all
}

func overwrite(list []impl.Ext) {
	list = list[:cap(list)]
	for i := range list {
		list[i] = impl.Ext{A: -5, B: -5}
	}
}

func TestSumsChangeNoArgument(t *testing.T) {
	mark := impl.Ext{A: 11, B: 22}
	for _, kind := range []int{impl.SuProduct, impl.SuGate, 3} {
		for i, lists := range sumLists() {
			for j, s := range ruleSources() {
				given, all := roomyLists(lists, mark)
				script, ofScript := roomy(s.Script, mark)
				kept, keptScript := allOf(all), slices.Clone(ofScript)
				sumAnswers(kind, given, withScript(s, script))
				if !sameLists(allOf(all), kept) || !slices.Equal(ofScript, keptScript) {
					t.Error(kind, "lists", i, "or source", j, "are changed, or what lies behind their ends")
				}
			}
		}
	}
}

// sumAnswered are all lists of what the calls answer; of one place alone RoundOf has none.
func sumAnswered(t *testing.T, kind int, tables [][]impl.Ext, s impl.Source) [][]impl.Ext {
	t.Helper()
	p := sumProved(t, kind, tables, s)
	point, _, end, code := impl.SumVerify(kind, sumOf(t, kind, tables), p.rounds, len(p.rounds), s)
	if code != impl.OK {
		t.Fatal("SumVerify", kind, len(p.rounds), code)
	}
	lists := append(slices.Clone(p.rounds), p.point, p.values, p.end.Script, point, end.Script)
	if len(tables[0]) > 1 {
		lists = append(lists, roundOf(t, kind, tables))
	}
	return lists
}

// sharesNone overwrites a list, and what lies behind its end, for a while: the others are not to follow.
func sharesNone(list []impl.Ext, others [][]impl.Ext) bool {
	kept, held := allOf(others), slices.Clone(list[:cap(list)])
	overwrite(list)
	apart := sameLists(allOf(others), kept)
	copy(list[:cap(list)], held)
	return apart
}

func TestSumsAreNewMemory(t *testing.T) {
	for _, k := range sumKinds {
		for vars := range impl.MaxVars + 1 {
			for j, s := range sumSources() {
				tables := mixedSum(k, vars)
				answer := sumAnswered(t, k.kind, tables, s)
				all := append(slices.Clone(answer), append(tables, s.Script)...)
				for i := range all {
					if !sharesNone(all[i], slices.Concat(all[:i], all[i+1:])) {
						t.Fatal(k, vars, "source", j, "list", i, "of", len(answer), "shares memory")
					}
				}
			}
		}
	}
}

// The outer list of an answer is new as well.
func TestRoundsAreNewLists(t *testing.T) {
	k := sumKinds[0]
	tables, s := mixedSum(k, 2), impl.Source{State: hashed("rules")}
	one, two := sumProved(t, k.kind, tables, s).rounds, sumProved(t, k.kind, tables, s).rounds
	for i := range one {
		one[i] = nil
	}
	if len(two) != 2 || len(two[0]) != 3 || len(two[1]) != 3 {
		t.Error("rounds are shared", two)
	}
}

func TestEmptySumIsNil(t *testing.T) {
	s, scripted := impl.Source{State: hashed("rules")}, impl.Source{State: hashed("rules"), Script: []impl.Ext{}}
	for _, kind := range []int{impl.SuProduct, impl.SuGate, 3} {
		for _, pair := range [][2][][]impl.Ext{{nil, {}}, {{nil, nil}, {{}, {}}}, {make([][]impl.Ext, 4), {{}, {}, {}, {}}}} {
			if one, two := sumAnswers(kind, pair[0], s), sumAnswers(kind, pair[1], scripted); one != two {
				t.Error(kind, one, two)
			}
		}
		if one, two := told(impl.Combine(kind, nil)), told(impl.Combine(kind, []impl.Ext{})); one != two {
			t.Error("Combine", kind, one, two)
		}
	}
	for _, k := range sumKinds {
		if one, two := sumAnswers(k.kind, mixedSum(k, 2), s), sumAnswers(k.kind, mixedSum(k, 2), scripted); one != two {
			t.Error("sources", k, one, two)
		}
		point, last, end, code := impl.SumVerify(k.kind, extX, nil, 0, s)
		if len(point) != 0 || last != extX || !sameSource(end, s) || code != impl.OK {
			t.Error("no rounds", k, point, last, end, code)
		}
	}
}
