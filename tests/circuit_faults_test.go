package tests

import (
	"slices"
	"testing"

	"loop.example/g00348/impl"
)

// Promise 12, of wrong circuits and numbers, and of two things that are wrong at once.

// standingAt puts a gate at a place of a circuit of 15, others being inputs.
func standingAt(place int, g impl.Gate) impl.Circuit {
	gates := slices.Repeat([]impl.Gate{input}, 15)
	gates[place] = g
	return circuitOf(gates...)
}

// noCircuits have one fault each.
func noCircuits() []impl.Circuit {
	var list []impl.Circuit
	for _, n := range []int{0, 16, 17, 256, impl.MaxList, longList, 65536 + 1} {
		list = append(list, circuitOf(slices.Repeat([]impl.Gate{input}, n)...))
	}
	for _, n := range []int{8, 9, 15} {
		list = append(list, circuitOf(slices.Repeat([]impl.Gate{public}, n)...))
	}
	list = append(list, circuitOf(slices.Concat([]impl.Gate{public}, slices.Repeat([]impl.Gate{input, public}, 7))...), impl.Circuit{}, circuitOf(impl.Gate{}))
	wrong := slices.Concat(gatesWithMore(), gatesOfNoOp(), constantsOfNoNumber())
	for _, bad := range noPlaces {
		wrong = append(wrong, gatesWith(bad)...)
	}
	for _, g := range wrong {
		list = append(list, circuitOf(g), circuitOf(input, input, g), circuitOf(input, input, g, input), standingAt(14, g))
	}
	for place := range 15 {
		for _, bad := range []int{place, place + 1, 14} {
			for _, g := range gatesWith(bad) {
				list = append(list, standingAt(place, g))
			}
		}
	}
	return list
}

func asksCountCode(t *testing.T, c impl.Circuit, op, want int) {
	t.Helper()
	if n, code := impl.CountOf(c, op); n != 0 || code != want {
		t.Error("CountOf", c, op, n, code, want)
	}
}

func TestNoCircuits(t *testing.T) {
	for i, c := range noCircuits() {
		if impl.CircuitOK(c) {
			t.Error("CircuitOK", i, c)
		}
		if s, code := impl.SystemOf(c); !sameSystem(s, impl.System{}) || code != impl.ErrCircuit {
			t.Error("SystemOf", i, c, s, code)
		}
		for _, op := range append([]int{impl.GaInput, impl.GaPublic, impl.GaConst, impl.GaBit}, noOps...) {
			asksCountCode(t, c, op, impl.ErrCircuit)
		}
		for _, numbers := range [][]int{nil, {1}, {1, 1}, {prime}, make([]int, 14), {-1, 0, 1}, make([]int, impl.MaxList)} {
			asksRunCode(t, c, nil, numbers, impl.ErrCircuit)
			asksRunCode(t, c, numbers, nil, impl.ErrCircuit)
			asksRunCode(t, c, numbers, numbers, impl.ErrCircuit)
		}
		long := make([]int, longList)
		asksRunCode(t, c, long, nil, impl.ErrLong)
		asksRunCode(t, c, nil, long, impl.ErrLong)
	}
}

// The gate right ahead is the last one that may be used.
func TestGatesUseGatesAhead(t *testing.T) {
	for place := range 15 {
		for used := range 16 {
			for _, g := range []impl.Gate{bitGate(used), sumGate(used, 0), sumGate(0, used), lessGate(used, used), mulGate(0, used), mulGate(used, 0), likeGate(used, 0), likeGate(0, used)} {
				if want := used < place; impl.CircuitOK(standingAt(place, g)) != want {
					t.Error(place, g, "is right:", !want)
				}
			}
		}
	}
}

func TestCountsOfNoOp(t *testing.T) {
	for _, c := range slices.Concat(allCircuits(1), longestCircuits()) {
		for _, op := range noOps {
			asksCountCode(t, c, op, impl.ErrRange)
		}
	}
}

// takesBoth takes two public numbers and three inputs, the last two of them alike.
var takesBoth = []impl.Gate{public, input, public, input, input, likeGate(3, 4), sumGate(0, 2)}

func TestRunsOfWrongNumbers(t *testing.T) {
	c := circuitOf(takesBoth...)
	for _, bad := range wrongNumbers {
		for _, n := range []int{1, 2, 3, 4, 15, impl.MaxList} {
			for _, at := range []int{0, n / 2, n - 1} {
				list := numbersWith(n, at, bad)
				asksRunCode(t, c, list, []int{1, 2, 2}, impl.ErrBad, n, at, bad)
				asksRunCode(t, c, []int{1, 2}, list, impl.ErrBad, n, at, bad)
				asksRunCode(t, c, nil, list, impl.ErrBad, n, at, bad)
				asksRunCode(t, c, list, nil, impl.ErrBad, n, at, bad)
			}
		}
	}
}

func TestRunsOfOtherLengths(t *testing.T) {
	for _, c := range slices.Concat(allCircuits(2), longestCircuits(), []impl.Circuit{circuitOf(takesBoth...)}) {
		publics, inputs := plainCount(c, impl.GaPublic), plainCount(c, impl.GaInput)
		for _, n := range []int{0, 1, 2, 3, 7, 8, 14, 15, 16, impl.MaxList} {
			for _, m := range []int{0, 1, 2, 3, 7, 8, 14, 15, 16, impl.MaxList} {
				if n != publics || m != inputs {
					asksRunCode(t, c, make([]int, n), make([]int, m), impl.ErrSize)
				}
			}
		}
		for _, by := range []int{-1, 1} {
			if publics+by >= 0 {
				asksRunCode(t, c, make([]int, publics+by), make([]int, inputs), impl.ErrSize)
			}
			if inputs+by >= 0 {
				asksRunCode(t, c, make([]int, publics), make([]int, inputs+by), impl.ErrSize)
			}
		}
	}
}

// As many numbers as gates for them, but of the other sort.
func TestNumbersOfTheOtherSort(t *testing.T) {
	asksRunCode(t, circuitOf(input), []int{1}, nil, impl.ErrSize)
	asksRunCode(t, circuitOf(public), nil, []int{1}, impl.ErrSize)
	asksRunCode(t, circuitOf(input, public, input), []int{1, 2}, []int{3}, impl.ErrSize)
	asksRunCode(t, circuitOf(input, public), nil, []int{1, 2}, impl.ErrSize)
}

func TestOrderOfCodesOfRuns(t *testing.T) {
	right, long := circuitOf(takesBoth...), make([]int, longList)
	longAndBad := slices.Repeat([]int{-1}, longList)
	for i, c := range []struct {
		c               impl.Circuit
		publics, inputs []int
		code            int
	}{
		{impl.Circuit{}, long, nil, impl.ErrLong},
		{impl.Circuit{}, nil, longAndBad, impl.ErrLong},
		{right, longAndBad, []int{1, 2, 2}, impl.ErrLong},
		{right, []int{1, 2}, long, impl.ErrLong},
		{right, []int{-1}, long, impl.ErrLong},
		{right, long, []int{prime}, impl.ErrLong},
		{impl.Circuit{}, []int{-1}, nil, impl.ErrCircuit},
		{impl.Circuit{}, nil, []int{prime}, impl.ErrCircuit},
		{circuitOf(bitGate(0)), []int{2}, []int{-1}, impl.ErrCircuit},
		{circuitOf(constant(2), bitGate(0), bitGate(2)), nil, nil, impl.ErrCircuit},
		{right, []int{1}, []int{1, 2, -1}, impl.ErrBad},
		{right, []int{1, prime}, []int{1, 2}, impl.ErrBad},
		{right, []int{1, 2, 3}, []int{1, 2, 3, -1}, impl.ErrBad},
		{right, nil, slices.Repeat([]int{prime}, impl.MaxList), impl.ErrBad},
		{right, []int{1, 2}, []int{1, 2, prime + 2}, impl.ErrBad},
		{right, []int{1, 2}, []int{1, 2, 3, 4}, impl.ErrSize},
		{right, []int{1}, []int{1, 2, 3}, impl.ErrSize},
		{circuitOf(constant(2), bitGate(0)), []int{1}, nil, impl.ErrSize},
		{circuitOf(constant(2), bitGate(0)), nil, []int{1}, impl.ErrSize},
		{circuitOf(constant(2), bitGate(0)), nil, []int{-1}, impl.ErrBad},
		{right, []int{1, 2}, []int{1, 2, 3}, impl.ErrUnsatisfied},
	} {
		asksRunCode(t, c.c, c.publics, c.inputs, c.code, "case", i)
	}
	asksRun(t, runOf(right, []int{1, 2}, []int{1, 2, 2}))
}
