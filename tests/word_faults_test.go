package tests

import (
	"math"
	"testing"

	"loop.example/g00348/impl"
)

// Promise 8, of wrong lists, rates, places and elements, and of two things that are wrong at once.

var noWords = []int{0, 3, 5, 6, 7, 12, 31, 33, 63, 65, 127, 129, 255, 257, 511, 513, 768, 1023, 1024, 2048, impl.MaxList}

// faultyWords are lists alone, with the code that each call which takes a word has for them.
func faultyWords() []listFault {
	faults := []listFault{
		{nil, impl.ErrSize},
		{[]impl.Ext{}, impl.ErrSize},
		{mixedExts(longList), impl.ErrLong},
		{extsWith(longList, 0, badExt), impl.ErrLong},
		{mixedExts(2 * impl.MaxList), impl.ErrLong},
	}
	for _, n := range noWords {
		faults = append(faults, listFault{mixedExts(n), impl.ErrSize})
		if n > 0 {
			faults = append(faults, listFault{extsWith(n, 0, badExt), impl.ErrBad}, listFault{extsWith(n, n-1, badExt), impl.ErrBad})
		}
	}
	for n := 1; n <= maxWord; n *= 2 {
		for _, place := range []int{0, n / 2, n - 1} {
			faults = append(faults, listFault{extsWith(n, place, badExt), impl.ErrBad})
		}
	}
	for _, bad := range wrongExts() {
		faults = append(faults, listFault{[]impl.Ext{ext1, ext1, bad, ext1}, impl.ErrBad}, listFault{[]impl.Ext{bad}, impl.ErrBad})
	}
	return faults
}

var someRates = []int{0, 1, 9, -1, 10, 63, 64, math.MaxInt, math.MinInt}

// A list's faults are told ahead of those of rates and of what it is folded by.
func TestFaultyWords(t *testing.T) {
	for i, c := range faultyWords() {
		calls := map[string]func() ([]impl.Ext, int){
			"Ntt":                           func() ([]impl.Ext, int) { return impl.Ntt(c.list) },
			"InverseNtt":                    func() ([]impl.Ext, int) { return impl.InverseNtt(c.list) },
			"FoldWord":                      func() ([]impl.Ext, int) { return impl.FoldWord(c.list, extX) },
			"FoldWord by what is not right": func() ([]impl.Ext, int) { return impl.FoldWord(c.list, badExt) },
		}
		for name, does := range calls {
			if got, code := does(); len(got) != 0 || code != c.code {
				t.Error(name, "of fault", i, "of", len(c.list), len(got), code, c.code)
			}
		}
		for _, rate := range someRates {
			if got, code := impl.EncodeWord(c.list, rate); len(got) != 0 || code != c.code {
				t.Error("EncodeWord of fault", i, "of", len(c.list), "at", rate, len(got), code, c.code)
			}
			if got, code := impl.IsWord(c.list, rate); got || code != c.code {
				t.Error("IsWord of fault", i, "of", len(c.list), "at", rate, got, code, c.code)
			}
		}
	}
}

func TestRatesOutOfBounds(t *testing.T) {
	for n := 1; n <= maxWord; n *= 2 {
		for _, rate := range []int{-1, -2, -9, -63, -64, 10, 11, 32, 55, 62, 63, 64, 65, 128, math.MaxInt, math.MinInt, math.MinInt + 1} {
			if got, code := impl.EncodeWord(mixedExts(n), rate); len(got) != 0 || code != impl.ErrRange {
				t.Error("EncodeWord", n, rate, len(got), code)
			}
			if got, code := impl.IsWord(make([]impl.Ext, n), rate); got || code != impl.ErrRange {
				t.Error("IsWord", n, rate, got, code)
			}
		}
		for rate := range maxRate + 1 {
			got, code := impl.EncodeWord(mixedExts(n), rate)
			if fits := n<<rate <= maxWord; fits != (code == impl.OK) || !fits && (len(got) != 0 || code != impl.ErrRange) {
				t.Error("EncodeWord", n, rate, len(got), code)
			}
			is, code := impl.IsWord(make([]impl.Ext, n), rate)
			if left := n>>rate >= 1; left != (code == impl.OK) || left != is || !left && code != impl.ErrRange {
				t.Error("IsWord", n, rate, is, code)
			}
		}
	}
}

func TestFoldPairFaults(t *testing.T) {
	sizes := []int{1, 0, -1, -2, -8, 3, 5, 6, 7, 9, 511, 513, 1023, 1024, 2048, 1 << 24, 1 << 32, 1 << 62, math.MaxInt, math.MinInt}
	places := []int{0, 1, 7, -1, 8, math.MaxInt, math.MinInt}
	for _, n := range sizes {
		for _, i := range places {
			if got, code := impl.FoldPair(n, i, ext1, extX, ext1); got != ext0 || code != impl.ErrSize {
				t.Error("FoldPair", n, i, got, code)
			}
			if got, code := impl.FoldPair(n, i, ext1, extX, badExt); got != ext0 || code != impl.ErrBad {
				t.Error("FoldPair by what is not right", n, i, got, code)
			}
		}
	}
	for n := 2; n <= maxWord; n *= 2 {
		for _, i := range []int{-1, -n, n / 2, n/2 + 1, n - 1, n, math.MaxInt, math.MinInt} {
			if got, code := impl.FoldPair(n, i, ext1, extX, ext1); got != ext0 || code != impl.ErrRange {
				t.Error("FoldPair", n, i, got, code)
			}
		}
		for _, i := range []int{0, n/2 - 1} {
			if _, code := impl.FoldPair(n, i, ext1, extX, ext1); code != impl.OK {
				t.Error("FoldPair", n, i, code)
			}
		}
	}
	for _, bad := range wrongExts() {
		for _, three := range [][3]impl.Ext{{bad, ext1, ext1}, {ext1, bad, ext1}, {ext1, ext1, bad}, {bad, bad, bad}} {
			for _, i := range []int{0, 3, 4, -1} {
				if got, code := impl.FoldPair(8, i, three[0], three[1], three[2]); got != ext0 || code != impl.ErrBad {
					t.Error("FoldPair at", i, "of", three, got, code)
				}
			}
		}
	}
}

// A list of other lengths is told ahead of an r that is not right, one element alone behind it.
func TestFoldWordFaults(t *testing.T) {
	for _, a := range someExts(2) {
		if got, code := impl.FoldWord([]impl.Ext{a}, extX); len(got) != 0 || code != impl.ErrSize {
			t.Error("one element alone", got, code)
		}
	}
	for _, bad := range wrongExts() {
		for n := 1; n <= maxWord; n *= 2 {
			if got, code := impl.FoldWord(mixedExts(n), bad); len(got) != 0 || code != impl.ErrBad {
				t.Error(n, "folded by", bad, len(got), code)
			}
		}
		for _, n := range noWords {
			if got, code := impl.FoldWord(mixedExts(n), bad); len(got) != 0 || code != impl.ErrSize {
				t.Error(n, "folded by", bad, len(got), code)
			}
		}
	}
}

func TestPolyAtFaults(t *testing.T) {
	for _, x := range []impl.Ext{ext0, ext1, badExt} {
		for _, list := range [][]impl.Ext{mixedExts(longList), extsWith(longList, 0, badExt)} {
			if got, code := impl.PolyAt(list, x); got != ext0 || code != impl.ErrLong {
				t.Error("too many coefficients at", x, got, code)
			}
		}
	}
	for _, bad := range wrongExts() {
		for _, n := range []int{0, 1, 2, 3, 1024, impl.MaxList} {
			if got, code := impl.PolyAt(make([]impl.Ext, n), bad); got != ext0 || code != impl.ErrBad {
				t.Error(n, "coefficients at", bad, got, code)
			}
			for _, place := range []int{0, n / 2, n - 1} {
				if n == 0 {
					continue
				}
				if got, code := impl.PolyAt(extsWith(n, place, bad), ext0); got != ext0 || code != impl.ErrBad {
					t.Error(n, "coefficients with", bad, "at", place, got, code)
				}
			}
		}
	}
}
