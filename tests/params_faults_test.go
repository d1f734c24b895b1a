package tests

import (
	"math"
	"slices"
	"testing"

	"loop.example/g00348/impl"
)

// Promise 16, of wrong settings, systems, bits, rates and grinds, and of two things that are wrong at once.

var (
	noBits    = []int{-1, -2, -16, 17, 18, 28, 32, 64, 1 << 32, 1<<32 + 1, math.MaxInt - 1, math.MaxInt, math.MinInt, math.MinInt + 1}
	rightBits = []int{0, 1, 8, 15, 16}
)

func TestBitsOfWrongSettings(t *testing.T) {
	for _, set := range wrongSettings() {
		if n, code := impl.QueryBits(set); n != 0 || code != impl.ErrBad {
			t.Error("QueryBits", set, n, code)
		}
		// The setting is told ahead of the bits.
		for _, bits := range slices.Concat(rightBits, noBits) {
			if ok, code := impl.Secure(set, bits); ok || code != impl.ErrBad {
				t.Error("Secure", set, bits, ok, code)
			}
		}
	}
}

func TestSecureOfWrongBits(t *testing.T) {
	eachSetting(func(set impl.Setting) {
		for _, bits := range noBits {
			if ok, code := impl.Secure(set, bits); ok || code != impl.ErrRange {
				t.Error("Secure", set, bits, ok, code)
			}
		}
	})
}

func asksNoneSelected(t *testing.T, bits, rate, grind int) {
	t.Helper()
	if set, code := impl.Select(bits, rate, grind); set != (impl.Setting{}) || code != impl.ErrRange {
		t.Error("Select", bits, rate, grind, set, code)
	}
}

// Each of the three by itself, two of them, and all; also where no setting has the bits.
func TestSelectFaults(t *testing.T) {
	bits, rates, grinds := slices.Concat(rightBits, noBits), slices.Concat([]int{1, 2, 3}, noRates), slices.Concat([]int{0, 1, 11, 12}, noGrinds)
	wrong := 0
	for i, b := range bits {
		for j, rate := range rates {
			for k, grind := range grinds {
				if i >= len(rightBits) || j >= 3 || k >= 4 {
					asksNoneSelected(t, b, rate, grind)
					wrong++
				}
			}
		}
	}
	if right := len(rightBits) * 3 * 4; wrong != len(bits)*len(rates)*len(grinds)-right {
		t.Error("asked for", wrong)
	}
}

// The bounds are those of chapter 10 and 16, not of what would have the bits.
func TestSelectAtItsBounds(t *testing.T) {
	for rate := -1; rate <= 5; rate++ {
		for grind := -2; grind <= 14; grind++ {
			for bits := -2; bits <= 18; bits++ {
				_, code := impl.Select(bits, rate, grind)
				outside := rate < 1 || rate > 3 || grind < 0 || grind > 12 || bits < 0 || bits > 16
				if (code == impl.ErrRange) != outside {
					t.Error("Select", bits, rate, grind, code)
				}
			}
		}
	}
}

func asksNoWork(t *testing.T, s impl.System, set impl.Setting, what ...any) {
	t.Helper()
	if n, code := impl.WorkOf(s, set); n != 0 || code != impl.ErrBad {
		t.Error("WorkOf", what, set, n, code)
	}
}

func TestWorkOfWhatIsNotRight(t *testing.T) {
	right := []impl.System{{Rows: 1, Cols: 2}, fullAsked(2, 3, rightSetting, impl.Source{}).s, fullAsked(5, 5, rightSetting, impl.Source{}).s}
	for i, s := range wrongSystems() {
		for _, set := range someSettings() {
			asksNoWork(t, s, set, "of system", i)
		}
		asksNoWork(t, s, impl.Setting{}, "of system", i, "and no setting")
	}
	for _, set := range wrongSettings() {
		for i, s := range right {
			asksNoWork(t, s, set, "of right system", i)
		}
		asksNoWork(t, impl.System{}, set, "of no system")
	}
}

// A wrong matrix stands among right ones; one entry too many is a fault by itself.
func TestWorkOfWrongMatrices(t *testing.T) {
	set, full := impl.Setting{Rate: 1, Queries: 1}, entriesIn(32, 32, 200)
	for i, list := range [][]impl.Entry{tooManyEntries(), entriesIn(32, 32, 1024), make([]impl.Entry, longList), slices.Repeat(full[:1], 2), {{Value: prime}}, {{Value: 0}}, {{Row: 32, Value: 1}}, {{Col: 32, Value: 1}}, {full[1], full[0]}} {
		for j, s := range []impl.System{{A: list, B: full, C: full}, {A: full, B: list, C: full}, {A: full, B: full, C: list}} {
			s.Rows, s.Cols = 5, 5
			asksNoWork(t, s, set, "of list", i, "in", j)
		}
	}
}
