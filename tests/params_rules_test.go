package tests

import (
	"fmt"
	"math"
	"slices"
	"testing"

	"loop.example/g00348/impl"
)

// Promise 1, of settings and bits.

// paramsAsked is what the calls of chapter 16 are handed.
type paramsAsked struct {
	s           impl.System
	set         impl.Setting
	bits        int
	rate, grind int
}

func paramsAnswers(a paramsAsked) string {
	return told(impl.QueryBits(a.set)) + told(impl.Secure(a.set, a.bits)) + told(impl.Select(a.bits, a.rate, a.grind)) + told(impl.WorkOf(a.s, a.set))
}

func rightParamsAsked() paramsAsked {
	return paramsAsked{s: fullAsked(2, 3, rightSetting, impl.Source{}).s, set: rightSetting, bits: 5, rate: 2, grind: 3}
}

// paramsChanges do something wrong, or nothing, or change what is right.
func paramsChanges() []func(a *paramsAsked) {
	list := []func(a *paramsAsked){func(*paramsAsked) {}, func(a *paramsAsked) { *a = paramsAsked{} }}
	for _, set := range slices.Concat(someSettings(), wrongSettings()) {
		list = append(list, func(a *paramsAsked) { a.set = set })
	}
	for _, s := range slices.Concat(systemsOf(1, 2), systemsOf(5, 5), wrongSystems()) {
		list = append(list, func(a *paramsAsked) { a.s = s }, func(a *paramsAsked) { a.s, a.set = s, impl.Setting{Rate: 3, Queries: 8, Grind: 12} })
	}
	for _, n := range []int{0, 1, 2, 3, 4, 8, 9, 12, 13, 16, 17, 63, 64, -1, math.MaxInt, math.MinInt} {
		list = append(list,
			func(a *paramsAsked) { a.bits = n },
			func(a *paramsAsked) { a.rate = n },
			func(a *paramsAsked) { a.grind = n },
			func(a *paramsAsked) { a.bits, a.rate, a.grind = n, n, n },
			func(a *paramsAsked) { a.set = impl.Setting{Rate: n, Queries: n, Grind: n} },
			func(a *paramsAsked) { a.s = impl.System{Rows: n, Cols: n, Publics: n} },
		)
	}
	return list
}

func changedParams(does func(a *paramsAsked)) paramsAsked {
	a := rightParamsAsked()
	does(&a)
	return a
}

func paramsCalls() []call {
	var calls []call
	for i, does := range paramsChanges() {
		a := changedParams(does)
		calls = append(calls, call{fmt.Sprint("settings ", i), func() string { return paramsAnswers(a) }})
	}
	return calls
}

func TestSettingsChangeNoArgument(t *testing.T) {
	mark := impl.Entry{Row: 1, Col: 2, Value: 3}
	for i, does := range paramsChanges() {
		a := changedParams(does)
		want := paramsAnswers(a)
		var all [3][]impl.Entry
		a.s.A, all[0] = roomy(a.s.A, mark)
		a.s.B, all[1] = roomy(a.s.B, mark)
		a.s.C, all[2] = roomy(a.s.C, mark)
		kept := told(all)
		got := paramsAnswers(a)
		if told(all) != kept {
			t.Error("case", i, "is changed, or what lies behind the ends of its lists")
		}
		if got != want {
			t.Error("case", i, "hangs on what lies behind the ends of its lists")
		}
	}
}

// Nothing is kept of what was asked ahead.
func TestSettingsAnswerAlikeOverAndOver(t *testing.T) {
	for i, does := range paramsChanges() {
		a := changedParams(does)
		want := paramsAnswers(a)
		for range 5 {
			if got := paramsAnswers(a); got != want {
				t.Fatal("case", i, got, want)
			}
		}
	}
}

func TestEmptyMatrixHasTheWorkOfNil(t *testing.T) {
	for _, set := range someSettings() {
		one, two := impl.System{Rows: 2, Cols: 3}, impl.System{Rows: 2, Cols: 3, A: []impl.Entry{}, B: []impl.Entry{}, C: []impl.Entry{}}
		if workOf(t, one, set) != workOf(t, two, set) {
			t.Error(set)
		}
	}
}
