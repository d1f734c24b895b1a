package tests

import (
	"fmt"
	"math"
	"slices"
	"strings"
	"testing"

	"loop.example/g00348/impl"
)

// Promise 1, of the calls that stand.

type call struct {
	name string
	does func() string
}

func told(values ...any) string { return fmt.Sprintln(values...) }

func textCalls() []call {
	var calls []call
	for i, text := range []string{"", "a", "ok", "zero", "no such word", "\x00\xff", "_9", strings.Repeat("a", 40), strings.Repeat("a", 41), strings.Repeat("x", impl.MaxText), strings.Repeat("x", impl.MaxText+1)} {
		calls = append(calls,
			call{fmt.Sprint("NameOK ", i), func() string { return told(impl.NameOK(text)) }},
			call{fmt.Sprint("CodeOf ", i), func() string { return told(impl.CodeOf(text)) }},
		)
	}
	return calls
}

func numberCalls() []call {
	var calls []call
	list := append(append([]int{}, edgeNumbers...), wrongNumbers...)
	for _, a := range list {
		calls = append(calls,
			call{fmt.Sprint("CodeWord ", a), func() string { return told(impl.CodeWord(a)) }},
			call{fmt.Sprint("FieldOK ", a), func() string { return told(impl.FieldOK(a)) }},
			call{fmt.Sprint("Inverse ", a), func() string { return told(impl.Inverse(a)) }},
			call{fmt.Sprint("RootOf ", a), func() string { return told(impl.RootOf(a)) }},
		)
		for _, b := range list {
			calls = append(calls,
				call{fmt.Sprint("Add ", a, b), func() string { return told(impl.Add(a, b)) }},
				call{fmt.Sprint("Sub ", a, b), func() string { return told(impl.Sub(a, b)) }},
				call{fmt.Sprint("Mul ", a, b), func() string { return told(impl.Mul(a, b)) }},
				call{fmt.Sprint("Pow ", a, b), func() string { return told(impl.Pow(a, b)) }},
			)
		}
	}
	return calls
}

func batchLists() [][]int {
	return [][]int{
		nil, {}, {0}, {1}, {2, 3, 5}, {1, 0, 2}, {1, prime, 2}, {math.MinInt, math.MaxInt}, edgeNumbers, wrongNumbers,
		numbersBut0(impl.MaxList), numbersBut0(impl.MaxList + 1),
	}
}

func listCalls() []call {
	var calls []call
	for i, list := range batchLists() {
		calls = append(calls, call{fmt.Sprint("BatchInverse ", i), func() string { return told(impl.BatchInverse(list)) }})
	}
	return calls
}

func answerOf(t *testing.T, c call) (answer string) {
	defer func() {
		if p := recover(); p != nil {
			t.Fatal(c.name, "panics:", p)
		}
	}()
	return c.does()
}

func TestAlikeArgumentsHaveAlikeAnswers(t *testing.T) {
	calls := slices.Concat(textCalls(), numberCalls(), listCalls())
	first := make([]string, len(calls))
	for i, c := range calls {
		first[i] = answerOf(t, c)
	}
	for i := len(calls) - 1; i >= 0; i-- {
		if again := answerOf(t, calls[i]); again != first[i] {
			t.Error(calls[i].name, "answers", again, "behind other calls, first", first[i])
		}
	}
}

// roomy is a list with numbers behind its end, and all of its memory.
func roomy(list []int) ([]int, []int) {
	all := append(slices.Clone(list), 11, 22, 33, 44)
	return all[:len(list)], all
}

func TestNoCallChangesAnArgument(t *testing.T) {
	for i, list := range batchLists() {
		given, all := roomy(list)
		kept := slices.Clone(all)
		impl.BatchInverse(given)
		if !slices.Equal(all, kept) {
			t.Error("list", i, "is changed, or what lies behind its end")
		}
	}
}

func TestAnswersAreNewMemory(t *testing.T) {
	for i, list := range batchLists() {
		given, all := roomy(list)
		kept := slices.Clone(all)
		one, _ := impl.BatchInverse(given)
		two, _ := impl.BatchInverse(given)
		want := slices.Clone(two)
		for j := range one {
			one[j] = -5
		}
		_ = append(one, -6)
		if !slices.Equal(all, kept) || !slices.Equal(two, want) {
			t.Error("list", i, "shares memory with an answer, or two answers share some")
		}
		for j := range all {
			all[j] = -7
		}
		if !slices.Equal(two, want) {
			t.Error("an answer shares memory with list", i)
		}
	}
}

func TestEmptyListIsNil(t *testing.T) {
	one, codeOne := impl.BatchInverse(nil)
	two, codeTwo := impl.BatchInverse([]int{})
	if len(one) != 0 || len(two) != 0 || codeOne != impl.OK || codeTwo != impl.OK {
		t.Error(one, two, codeOne, codeTwo)
	}
}
