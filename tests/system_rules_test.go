package tests

import (
	"fmt"
	"math"
	"slices"
	"testing"

	"loop.example/g00348/impl"
)

// Promise 1, of systems.

// systemAsked is what the calls of chapter 11 are handed.
type systemAsked struct {
	s                    impl.System
	publics, privates, z []int
	list                 []impl.Entry
	rows                 int
	rx, ry               []impl.Ext
}

func systemAnswers(a systemAsked) string {
	return told(impl.SystemOK(a.s)) + told(impl.VectorOf(a.s, a.publics, a.privates)) + told(impl.MulMatrix(a.list, a.rows, a.z)) +
		told(impl.MatrixAt(a.list, a.rx, a.ry)) + told(impl.Satisfied(a.s, a.z)) + told(impl.FailedRow(a.s, a.z)) + told(impl.SystemDigest(a.s))
}

// rightSystemAsked is of one row, or several, that fail.
func rightSystemAsked() systemAsked {
	z := plainVector(3, []int{5, 6}, []int{7, 8, 9})
	s := failing(satisfiedBy(2, 3, entriesIn(4, 8, 20), entriesIn(4, 8, 11), z), 2, 3)
	s.Publics = 2
	return systemAsked{s: s, publics: []int{5, 6}, privates: []int{7, 8, 9}, z: z, list: s.A, rows: 2, rx: mixedExts(2), ry: mixedExts(3)}
}

// systemChanges do something wrong, or nothing, or change what is right.
func systemChanges() []func(a *systemAsked) {
	list := []func(a *systemAsked){
		func(*systemAsked) {},
		func(a *systemAsked) { *a = systemAsked{} },
		func(a *systemAsked) { a.s = impl.System{Rows: 2, Cols: 3, Publics: 2} },
		func(a *systemAsked) { a.z = make([]int, 8) },
	}
	for _, n := range []int{0, 1, 5, 6, 63, 64, -1, math.MaxInt, math.MinInt} {
		list = append(list,
			func(a *systemAsked) { a.s.Rows, a.rows = n, n },
			func(a *systemAsked) { a.s.Cols = n },
			func(a *systemAsked) { a.s.Publics = n },
			func(a *systemAsked) { a.publics, a.privates, a.z = []int{n, n}, []int{n}, slices.Repeat([]int{n}, 8) },
		)
	}
	for _, n := range []int{0, 1, 2, 4, 5, 8, 32, impl.MaxList, longList} {
		list = append(list,
			func(a *systemAsked) { a.publics = numbersOf(n, 0) },
			func(a *systemAsked) { a.privates = numbersOf(n, 0) },
			func(a *systemAsked) { a.z = numbersOf(n, 0) },
			func(a *systemAsked) { a.rx = mixedExts(n) },
			func(a *systemAsked) { a.ry = mixedExts(n) },
		)
	}
	lists := append(noMatrices(), tooManyEntries(), entriesIn(4, 8, 32), nil, make([]impl.Entry, longList))
	for _, matrix := range lists {
		list = append(list, func(a *systemAsked) { a.s.A, a.list = matrix, matrix }, func(a *systemAsked) { a.s.C = matrix })
	}
	return append(list, func(a *systemAsked) { a.rx = []impl.Ext{ext1, badExt} }, func(a *systemAsked) { a.ry = []impl.Ext{badExt, ext1, ext0} })
}

func systemCalls() []call {
	var calls []call
	for i, does := range systemChanges() {
		a := rightSystemAsked()
		does(&a)
		calls = append(calls, call{fmt.Sprint("systems ", i), func() string { return systemAnswers(a) }})
	}
	return calls
}

// The order in which a map is gone through is another one each time.
func TestSystemsAnswerAlikeOverAndOver(t *testing.T) {
	for i, does := range systemChanges() {
		a := rightSystemAsked()
		does(&a)
		want := systemAnswers(a)
		for range 20 {
			if got := systemAnswers(a); got != want {
				t.Fatal("case", i, got, want)
			}
		}
	}
}

// roomyAsked has more behind the end of each list; what is answered is all that they have.
func roomyAsked(a systemAsked) (systemAsked, func() string) {
	mark := impl.Entry{Row: 1, Col: 2, Value: 3}
	var entries [4][]impl.Entry
	var numbers [3][]int
	var exts [2][]impl.Ext
	a.s.A, entries[0] = roomy(a.s.A, mark)
	a.s.B, entries[1] = roomy(a.s.B, mark)
	a.s.C, entries[2] = roomy(a.s.C, mark)
	a.list, entries[3] = roomy(a.list, mark)
	a.publics, numbers[0] = roomy(a.publics, 11)
	a.privates, numbers[1] = roomy(a.privates, 11)
	a.z, numbers[2] = roomy(a.z, 11)
	a.rx, exts[0] = roomy(a.rx, extX)
	a.ry, exts[1] = roomy(a.ry, extX)
	return a, func() string { return told(entries, numbers, exts) }
}

func TestSystemsChangeNoArgument(t *testing.T) {
	for i, does := range systemChanges() {
		a := rightSystemAsked()
		does(&a)
		given, all := roomyAsked(a)
		kept := all()
		systemAnswers(given)
		if all() != kept {
			t.Error("case", i, "is changed, or what lies behind the ends of its lists")
		}
	}
}

func TestVectorsAreNewMemory(t *testing.T) {
	s := rightSystemAsked().s
	lists := [][]int{{5, 6}, numbersOf(2, 30)}
	answersNewMemory(t, "VectorOf, what is public", lists, 11, -5, func(list []int) ([]int, int) { return impl.VectorOf(s, list, []int{7}) })
	lists = [][]int{nil, {7}, {7, 8, 9}, numbersOf(4, 30)}
	answersNewMemory(t, "VectorOf, what is private", lists, 11, -5, func(list []int) ([]int, int) { return impl.VectorOf(s, []int{5, 6}, list) })
	lists = [][]int{numbersOf(8, 0), make([]int, 8)}
	answersNewMemory(t, "MulMatrix", lists, 11, -5, func(z []int) ([]int, int) { return impl.MulMatrix(s.A, 2, z) })
	answersNewMemory(t, "MulMatrix of no entry", lists, 11, -5, func(z []int) ([]int, int) { return impl.MulMatrix(nil, 2, z) })
}

func TestEmptyMatrixIsNil(t *testing.T) {
	a := rightSystemAsked()
	a.s.A, a.s.B, a.s.C, a.list, a.privates = nil, nil, nil, nil, nil
	b := a
	b.s.A, b.s.B, b.s.C, b.list, b.privates = []impl.Entry{}, []impl.Entry{}, []impl.Entry{}, []impl.Entry{}, []int{}
	if one, two := systemAnswers(a), systemAnswers(b); one != two {
		t.Error("right", one, two)
	}
	a.publics, a.z, a.rx, a.ry = nil, nil, nil, nil
	b.publics, b.z, b.rx, b.ry = []int{}, []int{}, []impl.Ext{}, []impl.Ext{}
	if one, two := systemAnswers(a), systemAnswers(b); one != two {
		t.Error("of no length", one, two)
	}
	a.s.Publics, b.s.Publics = 0, 0
	if one, two := systemAnswers(a), systemAnswers(b); one != two {
		t.Error("nothing public", one, two)
	}
}
