package tests

import (
	"fmt"
	"math"
	"slices"
	"strings"
	"testing"

	"loop.example/g00348/impl"
)

// Promise 1, of circuits.

// circuitAsked is what the calls of chapter 12 are handed.
type circuitAsked struct {
	c               impl.Circuit
	op              int
	publics, inputs []int
	g               impl.Gate
	text            string
}

func circuitAnswers(a circuitAsked) string {
	return told(impl.CircuitOK(a.c)) + told(impl.CountOf(a.c, a.op)) + told(impl.RunCircuit(a.c, a.publics, a.inputs)) +
		told(impl.SystemOf(a.c)) + told(impl.WitnessOf(a.c, a.publics, a.inputs)) + told(impl.GateText(a.g)) + told(impl.ReadGate(a.text))
}

func rightCircuitAsked() circuitAsked {
	return circuitAsked{c: circuitOf(takesBoth...), op: impl.GaInput, publics: []int{1, 2}, inputs: []int{3, 4, 4}, g: sumGate(1, 2), text: "add 1 2"}
}

// circuitChanges do something wrong, or nothing, or change what is right.
func circuitChanges() []func(a *circuitAsked) {
	list := []func(a *circuitAsked){func(*circuitAsked) {}, func(a *circuitAsked) { *a = circuitAsked{} }}
	for _, c := range slices.Concat(noCircuits(), longestCircuits(), allCircuits(2), mixedCircuits()) {
		list = append(list, func(a *circuitAsked) {
			a.c = c
			a.publics, a.inputs = make([]int, plainCount(c, impl.GaPublic)), make([]int, plainCount(c, impl.GaInput))
		})
	}
	for _, n := range []int{0, 1, 2, 3, 8, 15, 16, impl.MaxList, longList} {
		list = append(list, func(a *circuitAsked) { a.publics = numbersOf(n, 0) }, func(a *circuitAsked) { a.inputs = numbersOf(n, 0) })
	}
	for _, n := range []int{0, 2, 8, 9, -1, 15, prime, math.MaxInt, math.MinInt} {
		list = append(list,
			func(a *circuitAsked) { a.op, a.g.Op = n, n },
			func(a *circuitAsked) { a.g.A = n },
			func(a *circuitAsked) { a.g.K = n },
			func(a *circuitAsked) { a.publics, a.inputs = []int{n, n}, []int{n, n, n} },
			func(a *circuitAsked) { a.text = fmt.Sprint("sub ", n, n) },
		)
	}
	for _, text := range []string{"", "input", " bit   3 ", "\x00", "\xff\xfe", "const", strings.Repeat(" ", impl.MaxText), strings.Repeat("9", impl.MaxText), strings.Repeat(" ", tooLong)} {
		list = append(list, func(a *circuitAsked) { a.text = text })
	}
	return list
}

func circuitCalls() []call {
	var calls []call
	for i, does := range circuitChanges() {
		a := rightCircuitAsked()
		does(&a)
		calls = append(calls, call{fmt.Sprint("circuits ", i), func() string { return circuitAnswers(a) }})
	}
	return calls
}

// The order in which a map is gone through is another one each time.
func TestSystemsOfCircuitsAreAlikeOverAndOver(t *testing.T) {
	for _, c := range append(longestCircuits(), circuitOf(takesBoth...)) {
		want := told(impl.SystemOf(c))
		for range 50 {
			if got := told(impl.SystemOf(c)); got != want {
				t.Fatal(c, got, want)
			}
		}
	}
}

func TestCircuitsChangeNoArgument(t *testing.T) {
	for i, does := range circuitChanges() {
		a := rightCircuitAsked()
		does(&a)
		var gates []impl.Gate
		var numbers [2][]int
		a.c.Gates, gates = roomy(a.c.Gates, bitGate(0))
		a.publics, numbers[0] = roomy(a.publics, 11)
		a.inputs, numbers[1] = roomy(a.inputs, 11)
		kept := told(gates, numbers)
		circuitAnswers(a)
		if told(gates, numbers) != kept {
			t.Error("case", i, "is changed, or what lies behind the ends of its lists")
		}
	}
}

func TestValuesAreNewMemory(t *testing.T) {
	c := circuitOf(takesBoth...)
	lists := [][]int{{5, 6}, numbersOf(2, 30)}
	answersNewMemory(t, "RunCircuit, what is public", lists, 11, -5, func(list []int) ([]int, int) { return impl.RunCircuit(c, list, []int{7, 8, 8}) })
	answersNewMemory(t, "WitnessOf, what is public", lists, 11, -5, func(list []int) ([]int, int) {
		public, _, code := impl.WitnessOf(c, list, []int{7, 8, 8})
		return public, code
	})
	lists = [][]int{{7, 8, 8}, {0, 0, 0}}
	answersNewMemory(t, "RunCircuit, inputs", lists, 11, -5, func(list []int) ([]int, int) { return impl.RunCircuit(c, []int{5, 6}, list) })
	answersNewMemory(t, "WitnessOf, inputs", lists, 11, -5, func(list []int) ([]int, int) {
		_, private, code := impl.WitnessOf(c, []int{5, 6}, list)
		return private, code
	})
	for n := 1; n <= 15; n++ {
		inputs := circuitOf(slices.Repeat([]impl.Gate{input}, n)...)
		answersNewMemory(t, "RunCircuit, inputs alone", [][]int{numbersOf(n, 0)}, 11, -5, func(list []int) ([]int, int) { return impl.RunCircuit(inputs, nil, list) })
	}
}

// fillWith writes a mark into all of a list, and behind its end.
func fillWith[T any](list []T, mark T) {
	list = list[:cap(list)]
	for i := range list {
		list[i] = mark
	}
}

func TestListsOfOneAnswerAreApart(t *testing.T) {
	for n := range 8 {
		for m := range 8 {
			c := circuitOf(append(slices.Repeat([]impl.Gate{public}, n), slices.Repeat([]impl.Gate{input}, m+1)...)...)
			public, private, _ := impl.WitnessOf(c, numbersOf(n, 0), numbersOf(m+1, 5))
			want := told(private)
			fillWith(public, -5)
			if told(private) != want {
				t.Error("WitnessOf's lists of", n, m)
			}
			public, private, _ = impl.WitnessOf(c, numbersOf(n, 0), numbersOf(m+1, 5))
			want = told(public)
			fillWith(private, -5)
			if told(public) != want {
				t.Error("WitnessOf's lists of", n, m)
			}
		}
	}
	for _, c := range mixedCircuits() {
		for which := range 3 {
			s := systemOf(t, c)
			lists := [][]impl.Entry{s.A, s.B, s.C}
			want := told(lists[(which+1)%3], lists[(which+2)%3])
			fillWith(lists[which], at(-1, -1, -1))
			if told(lists[(which+1)%3], lists[(which+2)%3]) != want {
				t.Error("the matrices of", c)
			}
		}
	}
}

func TestNoGatesAndNoNumbersAreNil(t *testing.T) {
	a := rightCircuitAsked()
	a.publics, a.inputs = nil, nil
	b := a
	b.publics, b.inputs = []int{}, []int{}
	for _, c := range []impl.Circuit{a.c, circuitOf(constant(5)), circuitOf(input), circuitOf(public), circuitOf(constant(2), bitGate(0))} {
		a.c, b.c = c, c
		if one, two := circuitAnswers(a), circuitAnswers(b); one != two {
			t.Error(c, one, two)
		}
	}
	a.c.Gates, b.c.Gates = nil, []impl.Gate{}
	if one, two := circuitAnswers(a), circuitAnswers(b); one != two {
		t.Error("no gates", one, two)
	}
}
