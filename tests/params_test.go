package tests

import (
	"math/big"
	"testing"

	"loop.example/g00348/impl"
)

// Promise 16, of settings and the bits that they have. How much work a proof is to verify is tested in work_test.go, wrong settings and bits in params_faults_test.go.

// eachSetting goes through all settings that are right.
func eachSetting(does func(set impl.Setting)) {
	for rate := 1; rate <= impl.MaxRate; rate++ {
		for queries := 1; queries <= impl.MaxQueries; queries++ {
			for grind := 0; grind <= impl.MaxGrind; grind++ {
				does(impl.Setting{Rate: rate, Queries: queries, Grind: grind})
			}
		}
	}
}

func power(base, n int) *big.Int {
	return new(big.Int).Exp(big.NewInt(int64(base)), big.NewInt(int64(n)), nil)
}

// plainBits is the most b of all up to 100 that chapter 16's sentence holds of, and Grind.
func plainBits(set impl.Setting) int {
	most := -1
	for b := 0; b <= 100; b++ {
		left := new(big.Int).Mul(power(1<<set.Rate+1, set.Queries), power(2, b))
		if left.Cmp(power(2, set.Queries*(set.Rate+1))) <= 0 {
			most = b
		}
	}
	return most + set.Grind
}

func queryBits(t *testing.T, set impl.Setting) int {
	t.Helper()
	n, code := impl.QueryBits(set)
	if code != impl.OK {
		t.Fatal("QueryBits", set, code)
	}
	return n
}

func secure(t *testing.T, set impl.Setting, bits int) bool {
	t.Helper()
	ok, code := impl.Secure(set, bits)
	if code != impl.OK {
		t.Fatal("Secure", set, bits, code)
	}
	return ok
}

func TestMostBits(t *testing.T) {
	if impl.MaxBits != 16 {
		t.Error(impl.MaxBits)
	}
}

func TestQueryBits(t *testing.T) {
	eachSetting(func(set impl.Setting) {
		if got, want := queryBits(t, set), plainBits(set); got != want {
			t.Error(set, "has", got, "is to have", want)
		}
	})
}

// 3, 5 and 9 to the q against 4, 8 and 16 to the q.
func TestQueryBitsByHand(t *testing.T) {
	for rate, list := range map[int][]int{1: {0, 0, 1, 1, 2, 2, 2, 3}, 2: {0, 1, 2, 2, 3, 4, 4, 5}, 3: {0, 1, 2, 3, 4, 4, 5, 6}} {
		for i, want := range list {
			for _, grind := range []int{0, 1, 12} {
				set := impl.Setting{Rate: rate, Queries: i + 1, Grind: grind}
				if got := queryBits(t, set); got != want+grind {
					t.Error(set, "has", got, "is to have", want+grind)
				}
			}
		}
	}
}

func TestMoreNeverHaveFewerBits(t *testing.T) {
	eachSetting(func(set impl.Setting) {
		n := queryBits(t, set)
		more, higher, harder := set, set, set
		more.Queries++
		higher.Rate++
		harder.Grind++
		for _, other := range []impl.Setting{more, higher, harder} {
			if impl.SettingOK(other) && queryBits(t, other) < n {
				t.Error(other, "has fewer bits than", set)
			}
		}
		if impl.SettingOK(harder) && queryBits(t, harder) != n+1 {
			t.Error(harder, "has not just one bit more than", set)
		}
	})
}

func TestSecure(t *testing.T) {
	eachSetting(func(set impl.Setting) {
		has := plainBits(set)
		for bits := 0; bits <= 16; bits++ {
			if got := secure(t, set, bits); got != (bits <= has) {
				t.Error(set, "of", has, "is secure of", bits, got)
			}
		}
	})
}

// plainSelected tries all numbers of queries; not ok if none has the bits.
func plainSelected(bits, rate, grind int) (impl.Setting, bool) {
	for queries := 1; queries <= 8; queries++ {
		if set := (impl.Setting{Rate: rate, Queries: queries, Grind: grind}); plainBits(set) >= bits {
			return set, true
		}
	}
	return impl.Setting{}, false
}

// eachAskedFor goes through all bits, rates and grinds that a setting may be asked for by.
func eachAskedFor(does func(bits, rate, grind int)) {
	for bits := 0; bits <= impl.MaxBits; bits++ {
		for rate := 1; rate <= impl.MaxRate; rate++ {
			for grind := 0; grind <= impl.MaxGrind; grind++ {
				does(bits, rate, grind)
			}
		}
	}
}

func TestSelect(t *testing.T) {
	found, none := 0, 0
	eachAskedFor(func(bits, rate, grind int) {
		want, ok := plainSelected(bits, rate, grind)
		wantCode := impl.OK
		if ok {
			found++
		} else {
			wantCode = impl.ErrSecure
			none++
		}
		if got, code := impl.Select(bits, rate, grind); got != want || code != wantCode {
			t.Error("Select", bits, rate, grind, "is", got, code, "is to be", want, wantCode)
		}
	})
	if found == 0 || none == 0 {
		t.Error("too few are asked for:", found, none)
	}
}

// The promise itself: what is selected has the bits, and one query less has not; where nothing is selected, all queries have not.
func TestWhatIsSelectedHasTheBits(t *testing.T) {
	eachAskedFor(func(bits, rate, grind int) {
		set, code := impl.Select(bits, rate, grind)
		if code == impl.ErrSecure {
			if secure(t, impl.Setting{Rate: rate, Queries: impl.MaxQueries, Grind: grind}, bits) {
				t.Error("Select", bits, rate, grind, "finds none")
			}
			return
		}
		if code != impl.OK || set.Rate != rate || set.Grind != grind || !secure(t, set, bits) {
			t.Fatal("Select", bits, rate, grind, set, code)
		}
		fewer := set
		fewer.Queries--
		if fewer.Queries > 0 && secure(t, fewer, bits) {
			t.Error("Select", bits, rate, grind, "takes", set.Queries, "queries, one less has the bits")
		}
	})
}

func TestSelectByHand(t *testing.T) {
	for _, c := range []struct{ bits, rate, grind, queries int }{
		{0, 1, 0, 1}, {0, 3, 12, 1}, {12, 1, 12, 1}, {11, 2, 12, 1}, {1, 1, 0, 3}, {1, 2, 0, 2}, {1, 3, 0, 2}, {13, 1, 12, 3},
		{2, 1, 0, 5}, {3, 1, 0, 8}, {4, 2, 0, 6}, {5, 2, 0, 8}, {3, 3, 0, 4}, {4, 3, 0, 5}, {5, 3, 0, 7}, {6, 3, 0, 8},
		{15, 1, 12, 8}, {16, 2, 12, 6}, {16, 2, 11, 8}, {16, 3, 12, 5}, {16, 3, 10, 8},
	} {
		want := impl.Setting{Rate: c.rate, Queries: c.queries, Grind: c.grind}
		if got, code := impl.Select(c.bits, c.rate, c.grind); got != want || code != impl.OK {
			t.Error("Select", c, got, code)
		}
	}
	for _, c := range []struct{ bits, rate, grind int }{
		{4, 1, 0}, {6, 2, 0}, {7, 3, 0}, {8, 3, 0}, {9, 3, 0}, {16, 1, 0}, {16, 2, 0}, {16, 3, 0}, {16, 1, 12}, {16, 2, 10}, {16, 3, 9}, {10, 3, 3},
	} {
		if got, code := impl.Select(c.bits, c.rate, c.grind); got != (impl.Setting{}) || code != impl.ErrSecure {
			t.Error("Select", c, got, code)
		}
	}
}

// What is selected is a setting to prove and verify in.
func TestWhatIsSelectedProves(t *testing.T) {
	eachAskedFor(func(bits, rate, grind int) {
		set, code := impl.Select(bits, rate, grind)
		if code != impl.OK || grind > 3 {
			return
		}
		for _, source := range cheatSources() {
			shownOf(t, fullAsked(1, 2, set, source)).asks(t, accepted, bits)
		}
	})
}
