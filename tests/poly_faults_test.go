package tests

import (
	"testing"

	"loop.example/g00348/impl"
)

// Promise 7, of wrong tables, points and elements, and of two things that are wrong at once.

var badExt = impl.Ext{A: 1, B: prime}

const longList = impl.MaxList + 1

type listFault struct {
	list []impl.Ext
	code int
}

// faultyTables are tables alone, with the code that a call which takes just a table has for them.
func faultyTables() []listFault {
	faults := []listFault{
		{nil, impl.ErrBad},
		{[]impl.Ext{badExt}, impl.ErrBad},
		{extsWith(3, 2, badExt), impl.ErrBad},
		{extsWith(128, 127, badExt), impl.ErrBad},
		{mixedExts(longList), impl.ErrLong},
		{extsWith(longList, 0, badExt), impl.ErrLong},
		{mixedExts(2 * impl.MaxList), impl.ErrLong},
	}
	for _, n := range noTables {
		faults = append(faults, listFault{mixedExts(n), impl.ErrBad})
	}
	for n := 1; n <= maxTable; n *= 2 {
		for _, place := range []int{0, n / 2, n - 1} {
			faults = append(faults, listFault{extsWith(n, place, badExt), impl.ErrBad})
		}
	}
	for _, bad := range wrongExts() {
		faults = append(faults, listFault{[]impl.Ext{ext1, ext1, bad, ext1}, impl.ErrBad})
	}
	return faults
}

func TestFaultyTables(t *testing.T) {
	for i, c := range faultyTables() {
		for name, does := range map[string]func(list []impl.Ext) ([]impl.Ext, int){
			"CoefsOf":   impl.CoefsOf,
			"TableOf":   impl.TableOf,
			"FoldTable": func(list []impl.Ext) ([]impl.Ext, int) { return impl.FoldTable(list, extX) },
			"FoldTable by what is not right": func(list []impl.Ext) ([]impl.Ext, int) {
				return impl.FoldTable(list, badExt)
			},
		} {
			if got, code := does(c.list); len(got) != 0 || code != c.code {
				t.Error(name, "of fault", i, "of", len(c.list), len(got), code, c.code)
			}
		}
		for n := range 8 {
			if got, code := impl.TableAt(c.list, mixedExts(n)); got != ext0 || code != c.code {
				t.Error("TableAt of fault", i, "of", len(c.list), "with a point of", n, got, code, c.code)
			}
		}
	}
}

func faultyPoints() []listFault {
	faults := []listFault{
		{mixedExts(7), impl.ErrBad},
		{mixedExts(8), impl.ErrBad},
		{mixedExts(64), impl.ErrBad},
		{mixedExts(impl.MaxList), impl.ErrBad},
		{extsWith(impl.MaxList, 0, badExt), impl.ErrBad},
		{mixedExts(longList), impl.ErrLong},
		{extsWith(longList, 0, badExt), impl.ErrLong},
	}
	for n := 1; n <= impl.MaxVars; n++ {
		for place := range n {
			faults = append(faults, listFault{extsWith(n, place, badExt), impl.ErrBad})
		}
	}
	for _, bad := range wrongExts() {
		faults = append(faults, listFault{[]impl.Ext{ext1, bad, ext0}, impl.ErrBad})
	}
	return faults
}

func TestFaultyPoints(t *testing.T) {
	for i, c := range faultyPoints() {
		if got, code := impl.EqTable(c.list); len(got) != 0 || code != c.code {
			t.Error("EqTable of fault", i, len(got), code, c.code)
		}
		for n := range impl.MaxVars + 3 {
			if got, code := impl.EqAt(c.list, mixedExts(n)); got != ext0 || code != c.code {
				t.Error("EqAt of fault", i, "and", n, got, code, c.code)
			}
			if got, code := impl.EqAt(mixedExts(n), c.list); got != ext0 || code != c.code {
				t.Error("EqAt of", n, "and fault", i, got, code, c.code)
			}
		}
		for n := 1; n <= 128; n *= 2 {
			if got, code := impl.TableAt(mixedExts(n), c.list); got != ext0 || code != c.code {
				t.Error("TableAt of", n, "at fault", i, got, code, c.code)
			}
		}
	}
}

// Too long a list is told ahead of anything that is not right in the other one.
func TestOtherListTooLong(t *testing.T) {
	long := mixedExts(longList)
	for _, other := range [][]impl.Ext{nil, {badExt}, mixedExts(3), mixedExts(7), mixedExts(128)} {
		if got, code := impl.EqAt(long, other); got != ext0 || code != impl.ErrLong {
			t.Error("EqAt", len(other), got, code)
		}
		if got, code := impl.EqAt(other, long); got != ext0 || code != impl.ErrLong {
			t.Error("EqAt behind", len(other), got, code)
		}
		if got, code := impl.TableAt(long, other); got != ext0 || code != impl.ErrLong {
			t.Error("TableAt", len(other), got, code)
		}
		if got, code := impl.TableAt(other, long); got != ext0 || code != impl.ErrLong {
			t.Error("TableAt behind", len(other), got, code)
		}
	}
}

func TestLengthsThatDoNotFit(t *testing.T) {
	for m := range impl.MaxVars + 1 {
		for n := range impl.MaxVars + 1 {
			want := impl.ErrSize
			if m == n {
				want = impl.OK
			}
			if got, code := impl.EqAt(mixedExts(m), mixedExts(n)); code != want || m != n && got != ext0 {
				t.Error("EqAt", m, n, got, code)
			}
			if got, code := impl.TableAt(mixedExts(1<<m), mixedExts(n)); code != want || m != n && got != ext0 {
				t.Error("TableAt", m, n, got, code)
			}
		}
	}
}

func TestFoldTableFaults(t *testing.T) {
	for _, table := range [][]impl.Ext{{ext0}, {ext1}, {extX}} {
		if got, code := impl.FoldTable(table, extX); len(got) != 0 || code != impl.ErrSize {
			t.Error("one value alone", got, code)
		}
	}
	for n := 1; n <= maxTable; n *= 2 {
		for _, bad := range wrongExts() {
			if got, code := impl.FoldTable(mixedExts(n), bad); len(got) != 0 || code != impl.ErrBad {
				t.Error(n, "values and", bad, got, code)
			}
		}
	}
}

func TestLineAtFaults(t *testing.T) {
	for i, c := range []struct {
		values []impl.Ext
		x      impl.Ext
		code   int
	}{
		{nil, ext1, impl.ErrSize},
		{[]impl.Ext{}, ext1, impl.ErrSize},
		{mixedExts(9), ext1, impl.ErrSize},
		{mixedExts(16), ext0, impl.ErrSize},
		{mixedExts(impl.MaxList), ext1, impl.ErrSize},
		{nil, badExt, impl.ErrBad},
		{mixedExts(9), badExt, impl.ErrBad},
		{extsWith(9, 8, badExt), ext1, impl.ErrBad},
		{extsWith(impl.MaxList, impl.MaxList-1, badExt), ext1, impl.ErrBad},
		{mixedExts(longList), ext1, impl.ErrLong},
		{mixedExts(longList), badExt, impl.ErrLong},
		{extsWith(longList, 0, badExt), badExt, impl.ErrLong},
	} {
		if got, code := impl.LineAt(c.values, c.x); got != ext0 || code != c.code {
			t.Error(i, got, code, c.code)
		}
	}
	for n := 1; n <= 8; n++ {
		for _, bad := range wrongExts() {
			for place := range n {
				if got, code := impl.LineAt(extsWith(n, place, bad), ext0); got != ext0 || code != impl.ErrBad {
					t.Error(n, "values with", bad, "at", place, got, code)
				}
			}
			if got, code := impl.LineAt(mixedExts(n), bad); got != ext0 || code != impl.ErrBad {
				t.Error(n, "values at", bad, got, code)
			}
		}
	}
}
