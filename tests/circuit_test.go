package tests

import (
	"slices"
	"testing"

	"loop.example/g00348/impl"
)

// Promise 12, of what circuits make.

// Gates in short.
var (
	input  = impl.Gate{Op: impl.GaInput}
	public = impl.Gate{Op: impl.GaPublic}
)

func constant(k int) impl.Gate    { return impl.Gate{Op: impl.GaConst, K: k} }
func sumGate(a, b int) impl.Gate  { return impl.Gate{Op: impl.GaAdd, A: a, B: b} }
func lessGate(a, b int) impl.Gate { return impl.Gate{Op: impl.GaSub, A: a, B: b} }
func mulGate(a, b int) impl.Gate  { return impl.Gate{Op: impl.GaMul, A: a, B: b} }
func likeGate(a, b int) impl.Gate { return impl.Gate{Op: impl.GaEqual, A: a, B: b} }
func bitGate(a int) impl.Gate     { return impl.Gate{Op: impl.GaBit, A: a} }

func circuitOf(gates ...impl.Gate) impl.Circuit { return impl.Circuit{Gates: gates} }

func plainCount(c impl.Circuit, op int) int {
	n := 0
	for _, g := range c.Gates {
		if g.Op == op {
			n++
		}
	}
	return n
}

// plainRun is the values gate by gate, and whether all that must be is.
func plainRun(c impl.Circuit, publics, inputs []int) ([]int, bool) {
	var v []int
	holds := true
	for _, g := range c.Gates {
		value := 0
		switch g.Op {
		case impl.GaInput:
			value, inputs = inputs[0], inputs[1:]
		case impl.GaPublic:
			value, publics = publics[0], publics[1:]
		case impl.GaConst:
			value = g.K
		case impl.GaAdd:
			value = add(v[g.A], v[g.B])
		case impl.GaSub:
			value = sub(v[g.A], v[g.B])
		case impl.GaMul:
			value = mul(v[g.A], v[g.B])
		case impl.GaEqual:
			value = v[g.A]
			holds = holds && v[g.A] == v[g.B]
		case impl.GaBit:
			value = v[g.A]
			holds = holds && (value == 0 || value == 1)
		}
		v = append(v, value)
	}
	return v, holds
}

// plainWitness parts the values.
func plainWitness(c impl.Circuit, values []int) ([]int, []int) {
	var publics, privates []int
	for i, g := range c.Gates {
		if g.Op == impl.GaPublic {
			publics = append(publics, values[i])
		} else {
			privates = append(privates, values[i])
		}
	}
	return publics, privates
}

// whole is a matrix with all its noughts.
type whole [32][32]int

func (m *whole) entries() []impl.Entry {
	var list []impl.Entry
	for row := range m {
		for col, value := range m[row] {
			if value != 0 {
				list = append(list, impl.Entry{Row: row, Col: col, Value: value})
			}
		}
	}
	return list
}

func plainColumns(c impl.Circuit, half int) []int {
	columns := make([]int, len(c.Gates))
	publics, others := 0, 0
	for i, g := range c.Gates {
		if g.Op == impl.GaPublic {
			publics++
			columns[i] = publics
		} else {
			columns[i] = half + others
			others++
		}
	}
	return columns
}

// plainSystem lays the rows out one by one.
func plainSystem(c impl.Circuit) impl.System {
	publics := plainCount(c, impl.GaPublic)
	cols, half := 2, 2
	for half < 1+publics || half < len(c.Gates)-publics {
		cols, half = cols+1, 2*half
	}
	at := plainColumns(c, half)
	var left, right, own whole
	n := 0
	row := func(gate int, does func(l, r *[32]int)) {
		does(&left[n], &right[n])
		own[n][at[gate]] = 1
		n++
	}
	for i, g := range c.Gates {
		switch g.Op {
		case impl.GaConst:
			row(i, func(l, r *[32]int) { l[0], r[0] = g.K, 1 })
		case impl.GaAdd:
			row(i, func(l, r *[32]int) { l[at[g.A]]++; l[at[g.B]]++; r[0] = 1 })
		case impl.GaSub:
			row(i, func(l, r *[32]int) { l[at[g.A]] = 1; l[at[g.B]] = sub(l[at[g.B]], 1); r[0] = 1 })
		case impl.GaMul:
			row(i, func(l, r *[32]int) { l[at[g.A]], r[at[g.B]] = 1, 1 })
		case impl.GaEqual:
			row(i, func(l, r *[32]int) { l[at[g.B]], r[0] = 1, 1 })
			row(i, func(l, r *[32]int) { l[at[g.A]], r[0] = 1, 1 })
		case impl.GaBit:
			row(i, func(l, r *[32]int) { l[at[g.A]], r[at[g.A]] = 1, 1 })
			row(i, func(l, r *[32]int) { l[at[g.A]], r[0] = 1, 1 })
		}
	}
	rows := 1
	for 1<<rows < n {
		rows++
	}
	return impl.System{Rows: rows, Cols: cols, Publics: publics, A: left.entries(), B: right.entries(), C: own.entries()}
}

func sameSystem(a, b impl.System) bool {
	return a.Rows == b.Rows && a.Cols == b.Cols && a.Publics == b.Publics && slices.Equal(a.A, b.A) && slices.Equal(a.B, b.B) && slices.Equal(a.C, b.C)
}

func systemOf(t *testing.T, c impl.Circuit) impl.System {
	t.Helper()
	s, code := impl.SystemOf(c)
	if code != impl.OK || !impl.SystemOK(s) {
		t.Fatal("SystemOf", c, s, code)
	}
	return s
}

// gatesAt are all gates that may stand at a place, with a few K.
func gatesAt(place int) []impl.Gate {
	list := []impl.Gate{input, public, constant(0), constant(1), constant(prime - 1)}
	for a := range place {
		for b := range place {
			list = append(list, sumGate(a, b), lessGate(a, b), mulGate(a, b), likeGate(a, b))
		}
		list = append(list, bitGate(a))
	}
	return list
}

// allCircuits are all of that many gates.
func allCircuits(n int) []impl.Circuit {
	if n == 0 {
		return []impl.Circuit{{}}
	}
	var list []impl.Circuit
	for _, c := range allCircuits(n - 1) {
		for _, g := range gatesAt(n - 1) {
			list = append(list, circuitOf(append(slices.Clone(c.Gates), g)...))
		}
	}
	return list
}

// mixedCircuit has n gates that are drawn; half of those that use others use the first one, or the one right ahead.
func mixedCircuit(n int, d *draws) impl.Circuit {
	var c impl.Circuit
	for place := range n {
		at := func() int {
			return []int{0, place - 1, d.next() % max(place, 1), d.next() % max(place, 1)}[d.next()%4]
		}
		g := []impl.Gate{
			input, public, constant([]int{0, 1, prime - 1, d.next()}[d.next()%4]),
			sumGate(at(), at()), lessGate(at(), at()), mulGate(at(), at()), likeGate(at(), at()), bitGate(at()),
		}
		which := d.next() % len(g)
		if place == 0 {
			which %= 3
		}
		if g[which] == public && plainCount(c, impl.GaPublic) == 7 {
			which = 0
		}
		c.Gates = append(c.Gates, g[which])
	}
	return c
}

func mixedCircuits() []impl.Circuit {
	d := draws(12)
	var list []impl.Circuit
	for n := 1; n <= 15; n++ {
		for range 60 {
			list = append(list, mixedCircuit(n, &d))
		}
	}
	return list
}

// drawnNumbers are often such as bits and equal gates have.
func drawnNumbers(n int, d *draws) []int {
	list := make([]int, n)
	for i := range list {
		list[i] = []int{0, 1, 1, prime - 1, d.next()}[d.next()%5]
	}
	return list
}

// run is a circuit, what is handed in, what comes of it, and whether all holds that must.
type run struct {
	c               impl.Circuit
	publics, inputs []int
	values          []int
	holds           bool
}

func runOf(c impl.Circuit, publics, inputs []int) run {
	values, holds := plainRun(c, publics, inputs)
	return run{c, publics, inputs, values, holds}
}

// someRuns are of all circuits of up to three gates, and of mixed ones of up to 15.
func someRuns() []run {
	d := draws(120)
	var runs []run
	for _, c := range slices.Concat(allCircuits(1), allCircuits(2), allCircuits(3), mixedCircuits()) {
		for range 4 {
			publics := drawnNumbers(plainCount(c, impl.GaPublic), &d)
			runs = append(runs, runOf(c, publics, drawnNumbers(plainCount(c, impl.GaInput), &d)))
		}
	}
	return runs
}

func TestGateNumbers(t *testing.T) {
	ops := []int{impl.GaInput, impl.GaPublic, impl.GaConst, impl.GaAdd, impl.GaSub, impl.GaMul, impl.GaEqual, impl.GaBit}
	if !slices.Equal(ops, []int{1, 2, 3, 4, 5, 6, 7, 8}) || impl.MaxGates != 15 {
		t.Error(ops, impl.MaxGates)
	}
}

// longestCircuits have as many gates as there may be.
func longestCircuits() []impl.Circuit {
	chain := circuitOf(input)
	ahead := circuitOf(public)
	bits := circuitOf(input)
	last := circuitOf(slices.Repeat([]impl.Gate{input}, 14)...)
	for i := 1; i < 15; i++ {
		chain.Gates = append(chain.Gates, sumGate(i-1, i-1))
		ahead.Gates = append(ahead.Gates, likeGate(0, i-1))
		bits.Gates = append(bits.Gates, bitGate(i-1))
	}
	last.Gates = append(last.Gates, mulGate(13, 0))
	publics := slices.Repeat([]impl.Gate{public}, 7)
	return []impl.Circuit{
		chain, ahead, bits, last, circuitOf(slices.Repeat([]impl.Gate{input}, 15)...), circuitOf(slices.Repeat([]impl.Gate{constant(prime - 1)}, 15)...),
		circuitOf(append(slices.Clone(publics), slices.Repeat([]impl.Gate{input}, 8)...)...),
		circuitOf(append(slices.Repeat([]impl.Gate{constant(0)}, 8), publics...)...),
	}
}

func TestRightCircuits(t *testing.T) {
	list := slices.Concat(allCircuits(1), allCircuits(2), allCircuits(3), mixedCircuits(), longestCircuits())
	for _, k := range edgeNumbers {
		list = append(list, circuitOf(constant(k)), circuitOf(input, constant(k)))
	}
	list = append(list, circuitOf(slices.Repeat([]impl.Gate{public}, 7)...))
	for _, c := range list {
		if !impl.CircuitOK(c) {
			t.Error(c, "is not right")
		}
	}
}

func TestCounts(t *testing.T) {
	for _, c := range slices.Concat(allCircuits(2), mixedCircuits(), longestCircuits()) {
		for op := impl.GaInput; op <= impl.GaBit; op++ {
			if n, code := impl.CountOf(c, op); n != plainCount(c, op) || code != impl.OK {
				t.Error(c, op, n, code)
			}
		}
	}
}

// asksRunCode wants a code of both calls that run a circuit, and nothing beside it.
func asksRunCode(t *testing.T, c impl.Circuit, publics, inputs []int, want int, what ...any) {
	t.Helper()
	if values, code := impl.RunCircuit(c, publics, inputs); code != want || len(values) != 0 {
		t.Error("RunCircuit", what, c, values, code, want)
	}
	if public, private, code := impl.WitnessOf(c, publics, inputs); code != want || len(public) != 0 || len(private) != 0 {
		t.Error("WitnessOf", what, c, public, private, code, want)
	}
}

// asksRun wants the run's values, or that what must be is not.
func asksRun(t *testing.T, r run) {
	t.Helper()
	if !r.holds {
		asksRunCode(t, r.c, r.publics, r.inputs, impl.ErrUnsatisfied)
		return
	}
	if values, code := impl.RunCircuit(r.c, r.publics, r.inputs); code != impl.OK || !slices.Equal(values, r.values) {
		t.Error("RunCircuit", r, values, code)
	}
	wantPublic, wantPrivate := plainWitness(r.c, r.values)
	public, private, code := impl.WitnessOf(r.c, r.publics, r.inputs)
	if code != impl.OK || !slices.Equal(public, wantPublic) || !slices.Equal(private, wantPrivate) {
		t.Error("WitnessOf", r, public, private, code)
	}
}

func TestRuns(t *testing.T) {
	held, long := 0, 0
	for _, r := range someRuns() {
		asksRun(t, r)
		if r.holds {
			held++
		}
		if r.holds && len(r.values) > 8 && plainCount(r.c, impl.GaEqual)+plainCount(r.c, impl.GaBit) > 0 {
			long++
		}
	}
	if held < 4000 || long < 100 {
		t.Error("too few runs hold:", held, long)
	}
	for _, c := range longestCircuits() {
		for from := range 9 {
			asksRun(t, runOf(c, numbersOf(plainCount(c, impl.GaPublic), from), numbersOf(plainCount(c, impl.GaInput), from)))
		}
	}
}

func TestRunsByHand(t *testing.T) {
	for i, c := range []struct {
		gates           []impl.Gate
		publics, inputs []int
		values          []int
	}{
		{[]impl.Gate{input}, nil, []int{7}, []int{7}},
		{[]impl.Gate{public}, []int{7}, nil, []int{7}},
		{[]impl.Gate{constant(0)}, nil, nil, []int{0}},
		{[]impl.Gate{constant(prime - 1)}, nil, nil, []int{prime - 1}},
		{[]impl.Gate{input, public, public, input}, []int{1, 2}, []int{3, 4}, []int{3, 1, 2, 4}},
		{[]impl.Gate{input, input, sumGate(0, 1)}, nil, []int{prime - 1, 3}, []int{prime - 1, 3, 2}},
		{[]impl.Gate{input, input, lessGate(0, 1)}, nil, []int{3, 5}, []int{3, 5, prime - 2}},
		{[]impl.Gate{input, input, lessGate(1, 0)}, nil, []int{3, 5}, []int{3, 5, 2}},
		{[]impl.Gate{input, input, mulGate(0, 1)}, nil, []int{prime - 1, prime - 1}, []int{prime - 1, prime - 1, 1}},
		{[]impl.Gate{input, sumGate(0, 0), lessGate(1, 1), mulGate(1, 1)}, nil, []int{prime - 1}, []int{prime - 1, prime - 2, 0, 4}},
		{[]impl.Gate{input, public, likeGate(0, 1)}, []int{9}, []int{9}, []int{9, 9, 9}},
		{[]impl.Gate{input, likeGate(0, 0)}, nil, []int{prime - 1}, []int{prime - 1, prime - 1}},
		{[]impl.Gate{input, bitGate(0), bitGate(1)}, nil, []int{0}, []int{0, 0, 0}},
		{[]impl.Gate{input, bitGate(0), bitGate(1)}, nil, []int{1}, []int{1, 1, 1}},
		{[]impl.Gate{public, input, mulGate(1, 1), likeGate(2, 0), lessGate(3, 1)}, []int{25}, []int{5}, []int{25, 5, 25, 25, 20}},
	} {
		asksRun(t, run{circuitOf(c.gates...), c.publics, c.inputs, c.values, true})
		if t.Failed() {
			t.Fatal("case", i)
		}
	}
}

func TestWhatMustBeIsNot(t *testing.T) {
	for _, n := range []int{2, 3, prime - 1, prime - 2, (prime + 1) / 2, 65536} {
		asksRun(t, run{c: circuitOf(input, bitGate(0)), inputs: []int{n}})
		asksRun(t, run{c: circuitOf(public, bitGate(0)), publics: []int{n}})
		asksRun(t, run{c: circuitOf(constant(n), bitGate(0), input), inputs: []int{1}})
		asksRun(t, run{c: circuitOf(input, public, likeGate(0, 1)), publics: []int{n - 1}, inputs: []int{n}})
		asksRun(t, run{c: circuitOf(input, public, likeGate(1, 0)), publics: []int{n}, inputs: []int{n - 1}})
	}
	asksRun(t, run{c: circuitOf(constant(0), constant(1), likeGate(0, 1))})
	asksRun(t, run{c: circuitOf(constant(1), constant(0), likeGate(0, 1), bitGate(2))})
	asksRun(t, run{c: circuitOf(input, bitGate(0), constant(2), bitGate(2)), inputs: []int{1}})
}

func TestSystemsOfCircuits(t *testing.T) {
	for _, c := range slices.Concat(allCircuits(1), allCircuits(2), allCircuits(3), mixedCircuits(), longestCircuits()) {
		if s := systemOf(t, c); !sameSystem(s, plainSystem(c)) {
			t.Fatal(c, s, plainSystem(c))
		}
	}
}

func at(row, col, value int) impl.Entry { return impl.Entry{Row: row, Col: col, Value: value} }

func TestSystemsOfCircuitsByHand(t *testing.T) {
	none := []impl.Entry(nil)
	one := []impl.Entry{at(0, 0, 1)}
	for i, c := range []struct {
		gates      []impl.Gate
		rows, cols int
		a, b, c    []impl.Entry
	}{
		{[]impl.Gate{input}, 1, 2, none, none, none},
		{[]impl.Gate{public}, 1, 2, none, none, none},
		{[]impl.Gate{constant(7)}, 1, 2, []impl.Entry{at(0, 0, 7)}, one, []impl.Entry{at(0, 2, 1)}},
		{[]impl.Gate{constant(prime - 1)}, 1, 2, []impl.Entry{at(0, 0, prime-1)}, one, []impl.Entry{at(0, 2, 1)}},
		{[]impl.Gate{constant(0)}, 1, 2, none, one, []impl.Entry{at(0, 2, 1)}},
		{[]impl.Gate{public, input, sumGate(0, 1)}, 1, 2, []impl.Entry{at(0, 1, 1), at(0, 2, 1)}, one, []impl.Entry{at(0, 3, 1)}},
		{[]impl.Gate{input, public, sumGate(0, 1)}, 1, 2, []impl.Entry{at(0, 1, 1), at(0, 2, 1)}, one, []impl.Entry{at(0, 3, 1)}},
		{[]impl.Gate{input, sumGate(0, 0)}, 1, 2, []impl.Entry{at(0, 2, 2)}, one, []impl.Entry{at(0, 3, 1)}},
		{[]impl.Gate{public, input, lessGate(0, 1)}, 1, 2, []impl.Entry{at(0, 1, 1), at(0, 2, prime-1)}, one, []impl.Entry{at(0, 3, 1)}},
		{[]impl.Gate{public, input, lessGate(1, 0)}, 1, 2, []impl.Entry{at(0, 1, prime-1), at(0, 2, 1)}, one, []impl.Entry{at(0, 3, 1)}},
		{[]impl.Gate{input, lessGate(0, 0)}, 1, 2, none, one, []impl.Entry{at(0, 3, 1)}},
		{[]impl.Gate{public, lessGate(0, 0)}, 1, 2, none, one, []impl.Entry{at(0, 2, 1)}},
		{[]impl.Gate{public, input, mulGate(0, 1)}, 1, 2, []impl.Entry{at(0, 1, 1)}, []impl.Entry{at(0, 2, 1)}, []impl.Entry{at(0, 3, 1)}},
		{[]impl.Gate{public, input, mulGate(1, 0)}, 1, 2, []impl.Entry{at(0, 2, 1)}, []impl.Entry{at(0, 1, 1)}, []impl.Entry{at(0, 3, 1)}},
		{[]impl.Gate{input, mulGate(0, 0)}, 1, 2, []impl.Entry{at(0, 2, 1)}, []impl.Entry{at(0, 2, 1)}, []impl.Entry{at(0, 3, 1)}},
		{
			[]impl.Gate{public, input, likeGate(0, 1)}, 1, 2,
			[]impl.Entry{at(0, 2, 1), at(1, 1, 1)}, []impl.Entry{at(0, 0, 1), at(1, 0, 1)}, []impl.Entry{at(0, 3, 1), at(1, 3, 1)},
		},
		{
			[]impl.Gate{input, likeGate(0, 0)}, 1, 2,
			[]impl.Entry{at(0, 2, 1), at(1, 2, 1)}, []impl.Entry{at(0, 0, 1), at(1, 0, 1)}, []impl.Entry{at(0, 3, 1), at(1, 3, 1)},
		},
		{
			[]impl.Gate{input, bitGate(0)}, 1, 2,
			[]impl.Entry{at(0, 2, 1), at(1, 2, 1)}, []impl.Entry{at(0, 2, 1), at(1, 0, 1)}, []impl.Entry{at(0, 3, 1), at(1, 3, 1)},
		},
		{
			[]impl.Gate{input, bitGate(0), constant(0), sumGate(1, 1), lessGate(0, 0)}, 3, 4,
			[]impl.Entry{at(0, 8, 1), at(1, 8, 1), at(3, 9, 2)},
			[]impl.Entry{at(0, 8, 1), at(1, 0, 1), at(2, 0, 1), at(3, 0, 1), at(4, 0, 1)},
			[]impl.Entry{at(0, 9, 1), at(1, 9, 1), at(2, 10, 1), at(3, 11, 1), at(4, 12, 1)},
		},
	} {
		circuit := circuitOf(c.gates...)
		want := impl.System{Rows: c.rows, Cols: c.cols, Publics: plainCount(circuit, impl.GaPublic), A: c.a, B: c.b, C: c.c}
		if s := systemOf(t, circuit); !sameSystem(s, want) {
			t.Error("case", i, s, want)
		}
	}
}

// What is public and the 1 share the first half, all other gates the second.
func TestColumnsOfCircuits(t *testing.T) {
	for _, c := range []struct{ publics, others, cols int }{
		{1, 0, 2}, {0, 1, 2}, {0, 2, 2}, {1, 1, 2}, {1, 2, 2},
		{2, 0, 3}, {2, 1, 3}, {3, 0, 3}, {0, 3, 3}, {1, 3, 3}, {0, 4, 3}, {3, 4, 3},
		{4, 0, 4}, {4, 4, 4}, {0, 5, 4}, {3, 5, 4}, {7, 0, 4}, {0, 8, 4}, {7, 8, 4}, {6, 8, 4},
		{0, 9, 5}, {6, 9, 5}, {5, 10, 5}, {1, 14, 5}, {0, 15, 5},
	} {
		gates := append(slices.Repeat([]impl.Gate{input}, c.others), slices.Repeat([]impl.Gate{public}, c.publics)...)
		if s := systemOf(t, circuitOf(gates...)); s.Cols != c.cols || s.Publics != c.publics || s.Rows != 1 {
			t.Error(c, s)
		}
	}
}

func TestRowsOfCircuits(t *testing.T) {
	for _, c := range []struct{ ones, twos, rows int }{
		{0, 0, 1}, {1, 0, 1}, {2, 0, 1}, {0, 1, 1}, {1, 1, 2}, {3, 0, 2}, {0, 2, 2}, {1, 2, 3}, {5, 0, 3}, {0, 4, 3}, {8, 0, 3},
		{1, 4, 4}, {9, 0, 4}, {14, 0, 4}, {0, 8, 4}, {1, 8, 5}, {12, 2, 4}, {11, 3, 5}, {0, 9, 5}, {0, 14, 5},
	} {
		gates := slices.Concat([]impl.Gate{input}, slices.Repeat([]impl.Gate{mulGate(0, 0)}, c.ones))
		for i := range c.twos {
			gates = append(gates, []impl.Gate{bitGate(0), likeGate(0, 0)}[i%2])
		}
		if s := systemOf(t, circuitOf(gates...)); s.Rows != c.rows || len(s.C) != c.ones+2*c.twos {
			t.Error(c, s)
		}
	}
}

// vectorWith is the system's vector with these values of the gates.
func vectorWith(t *testing.T, c impl.Circuit, s impl.System, values []int) []int {
	t.Helper()
	publics, privates := plainWitness(c, values)
	return vectorOf(t, s, publics, privates)
}

func asksSatisfied(t *testing.T, r run, s impl.System, values []int, want bool) {
	t.Helper()
	if is, code := impl.Satisfied(s, vectorWith(t, r.c, s, values)); is != want || code != impl.OK {
		t.Fatal(r, "with the values", values, "is satisfied:", is, code)
	}
}

func isHandedIn(g impl.Gate) bool { return g.Op == impl.GaInput || g.Op == impl.GaPublic }

func TestWhatCircuitsMakeSatisfies(t *testing.T) {
	for _, r := range someRuns() {
		if !r.holds {
			continue
		}
		s := systemOf(t, r.c)
		publics, privates, _ := impl.WitnessOf(r.c, r.publics, r.inputs)
		if is, code := impl.Satisfied(s, vectorOf(t, s, publics, privates)); !is || code != impl.OK {
			t.Fatal(r, is, code)
		}
	}
}

func TestChangedGatesDoNotSatisfy(t *testing.T) {
	for _, r := range someRuns() {
		s := systemOf(t, r.c)
		for i, g := range r.c.Gates {
			if isHandedIn(g) {
				continue
			}
			for _, by := range []int{1, prime - 1, 65537} {
				values := slices.Clone(r.values)
				values[i] = add(values[i], by)
				asksSatisfied(t, r, s, values, false)
			}
		}
	}
}

// triesOf are a gate's own value, one beside it, and what else its rows might let through.
func triesOf(r run, i int) []int {
	g, v := r.c.Gates[i], r.values[i]
	if isHandedIn(g) {
		return []int{v}
	}
	tries := []int{v, add(v, 1), mul(v, v), 0}
	if g.Op == impl.GaEqual {
		tries = append(tries, r.values[g.B])
	}
	slices.Sort(tries)
	return slices.Compact(tries)
}

// eachTry goes through all that the tries of all gates can be put together to.
func eachTry(r run, values []int, does func(values []int)) {
	if len(values) == len(r.c.Gates) {
		does(values)
		return
	}
	for _, v := range triesOf(r, len(values)) {
		eachTry(r, append(slices.Clip(values), v), does)
	}
}

// Several gates' values are others at once; where something that must be is not, none satisfy.
func TestNoOtherValuesSatisfy(t *testing.T) {
	d := draws(33)
	for _, c := range slices.Concat(allCircuits(1), allCircuits(2), allCircuits(3)) {
		for _, n := range []int{0, 1, 2, d.next()} {
			r := runOf(c, slices.Repeat([]int{n}, plainCount(c, impl.GaPublic)), slices.Repeat([]int{1}, plainCount(c, impl.GaInput)))
			s := systemOf(t, c)
			eachTry(r, nil, func(values []int) {
				asksSatisfied(t, r, s, values, r.holds && slices.Equal(values, r.values))
			})
		}
	}
}

// Other inputs, with what comes of them, satisfy as well: it is not the one vector that does.
func TestOtherInputsSatisfy(t *testing.T) {
	c := circuitOf(public, input, mulGate(1, 1), likeGate(2, 0), lessGate(3, 1), bitGate(0))
	for _, root := range []int{1, prime - 1} {
		r := runOf(c, []int{1}, []int{root})
		asksRun(t, r)
		asksSatisfied(t, r, systemOf(t, c), r.values, true)
	}
	c.Gates = c.Gates[:5]
	for _, root := range someNumbers(20) {
		for _, n := range []int{root, sub(0, root)} {
			r := runOf(c, []int{mul(root, root)}, []int{n})
			asksRun(t, r)
			asksSatisfied(t, r, systemOf(t, c), r.values, true)
		}
	}
}
