package tests

import (
	"slices"
	"testing"

	"loop.example/g00348/impl"
)

// Promise 18, of chapters 11 to 16 together: from what is handed in to bytes that are accepted. Those of which no nonce is found are tested in prove_grind_test.go and console_grind_test.go.

// wholeAsked is all that is handed in, from a circuit's numbers to the bits that are asked for.
type wholeAsked struct {
	run
	bits, rate, grind int
	source            impl.Source
}

// settingFor has the bits that are asked for.
func (a wholeAsked) settingFor(t *testing.T) impl.Setting {
	t.Helper()
	set, code := impl.Select(a.bits, a.rate, a.grind)
	if code != impl.OK || set.Rate != a.rate || set.Grind != a.grind || queryBits(t, set) < a.bits || !secure(t, set, a.bits) {
		t.Fatal("Select", a.bits, a.rate, a.grind, set, code)
	}
	return set
}

// asksNone wants that nobody proves it: not from the numbers, and not from the values that come of them.
func (a wholeAsked) asksNone(t *testing.T, set impl.Setting) {
	t.Helper()
	if values, code := impl.RunCircuit(a.c, a.publics, a.inputs); len(values) != 0 || code != impl.ErrUnsatisfied {
		t.Fatal("RunCircuit", a.run, values, code)
	}
	if p, code := impl.ProveCircuit(a.c, set, a.publics, a.inputs, a.source); code != impl.ErrUnsatisfied || !sameProof(p, impl.Proof{}) {
		t.Fatal("ProveCircuit", a.run, set, code)
	}
	publics, privates := plainWitness(a.c, a.values)
	if p, code := impl.Prove(systemOf(t, a.c), set, publics, privates, a.source); code != impl.ErrUnsatisfied || !sameProof(p, impl.Proof{}) {
		t.Fatal("Prove", a.run, set, code)
	}
}

// bytesOfAll are those of the circuit's proof, and as many as ProofSize tells.
func (a wholeAsked) bytesOfAll(t *testing.T, s impl.System, set impl.Setting) []byte {
	t.Helper()
	p, code := impl.ProveCircuit(a.c, set, a.publics, a.inputs, a.source)
	if code != impl.OK || !impl.ProofOK(p, s, set) {
		t.Fatal("ProveCircuit", a.run, set, code)
	}
	b, code := impl.ProofBytes(p, s, set)
	if size, sizeCode := impl.ProofSize(s, set); code != impl.OK || sizeCode != impl.OK || size != len(b) {
		t.Fatal("ProofBytes", a.run, set, len(b), code, size, sizeCode)
	}
	return b
}

// asksAll wants that it is proved and accepted from its bytes, if all holds that must, and that it is not proved if not.
func (a wholeAsked) asksAll(t *testing.T) {
	t.Helper()
	set := a.settingFor(t)
	if !a.holds {
		a.asksNone(t, set)
		return
	}
	s := systemOf(t, a.c)
	publics, privates, code := impl.WitnessOf(a.c, a.publics, a.inputs)
	if is, satisfiedCode := impl.Satisfied(s, vectorOf(t, s, publics, privates)); code != impl.OK || !is || satisfiedCode != impl.OK {
		t.Fatal("WitnessOf", a.run, code, is, satisfiedCode)
	}
	b := a.bytesOfAll(t, s, set)
	if ok, code := impl.VerifyBytes(s, set, a.publics, b, a.source); !ok || code != impl.OK {
		t.Fatal("VerifyBytes", a.run, set, ok, code)
	}
	p, code := impl.ReadProof(b, s, set)
	if ok, verifyCode := impl.VerifyCircuit(a.c, set, a.publics, p, a.source); code != impl.OK || !ok || verifyCode != impl.OK {
		t.Fatal("VerifyCircuit", a.run, set, code, ok, verifyCode)
	}
	if again, code := impl.Prove(s, set, publics, privates, a.source); code != impl.OK || !sameProof(again, p) {
		t.Fatal("Prove", a.run, set, code)
	}
}

// whoDraws are sources of either sort, scripts of noughts and ones alone among them.
func whoDraws() []impl.Source {
	list := append(proofSources(), consoleSource)
	for _, script := range [][]impl.Ext{{ext0}, {ext1}, {extX}, {ext0, ext1}, {ext1, ext0, ext0}, {{A: prime - 1, B: prime - 1}}, mixedExts(63), mixedExts(64), slices.Repeat([]impl.Ext{ext0}, 64)} {
		list = append(list, impl.Source{State: hashed("whole"), Script: script})
	}
	return list
}

// someBits are bits that a setting has of a rate and a grind that takes no time.
func someBits() []wholeAsked {
	var list []wholeAsked
	eachAskedFor(func(bits, rate, grind int) {
		if _, ok := plainSelected(bits, rate, grind); ok && grind <= 4 {
			list = append(list, wholeAsked{bits: bits, rate: rate, grind: grind})
		}
	})
	return list
}

func TestTheWholeOfManyCircuits(t *testing.T) {
	asked, sources := someBits(), whoDraws()
	proved, not := 0, 0
	for i, r := range someRuns() {
		a := asked[(i*7)%len(asked)]
		a.run, a.source = r, sources[i%len(sources)]
		a.asksAll(t)
		if r.holds {
			proved++
		} else {
			not++
		}
	}
	if proved < 1000 || not < 1000 {
		t.Error(proved, "are proved,", not, "are not")
	}
}

// The longest circuits in all settings that some bits ask for, whoever draws.
func TestTheWholeOfTheLongestCircuits(t *testing.T) {
	asked, sources := someBits(), whoDraws()
	at := 0
	for _, c := range longestCircuits() {
		r := runOf(c, slices.Repeat([]int{1}, plainCount(c, impl.GaPublic)), slices.Repeat([]int{1}, plainCount(c, impl.GaInput)))
		for _, a := range asked {
			a.run, a.source = r, sources[at%len(sources)]
			a.asksAll(t)
			at++
		}
	}
}

// One circuit of a public number and inputs that hold for some, whoever draws: just what satisfies is proved.
func TestTheWholeWhoeverDraws(t *testing.T) {
	c := circuitOf(input, bitGate(0), input, public, mulGate(0, 2), likeGate(4, 3), constant(9), lessGate(6, 2))
	proved := 0
	for i, source := range whoDraws() {
		for _, bit := range []int{0, 1, 2, prime - 1} {
			for _, n := range []int{0, 1, 7, prime - 1} {
				for _, product := range []int{0, n, mul(bit, n), add(n, 1)} {
					a := wholeAsked{run: runOf(c, []int{product}, []int{bit, n}), bits: 3, rate: 1 + i%3, grind: 1 + i%2, source: source}
					a.asksAll(t)
					if a.holds {
						proved++
					}
				}
			}
		}
	}
	if proved == 0 {
		t.Error("none holds")
	}
}

// Circuits of each number of gates, public ones among them, with numbers of the field's edges.
func TestTheWholeOfEachSize(t *testing.T) {
	asked, sources := someBits(), whoDraws()
	at := 0
	for gates := 1; gates <= 15; gates++ {
		for publics := 0; publics <= min(gates, 7); publics++ {
			c := circuitOf(append(slices.Repeat([]impl.Gate{public}, publics), slices.Repeat([]impl.Gate{input}, gates-publics)...)...)
			if gates > publics+1 {
				c.Gates[gates-1] = sumGate(0, gates-2)
			}
			a := asked[at%len(asked)]
			a.run = runOf(c, numbersOf(publics, at), numbersOf(plainCount(c, impl.GaInput), 3*at))
			a.source = sources[at%len(sources)]
			a.asksAll(t)
			at++
		}
	}
}

// As many bits as can be asked for, of each grind that has them.
func TestTheWholeOfTheMostBits(t *testing.T) {
	r := runOf(circuitOf(input, public, mulGate(0, 0), likeGate(2, 1)), []int{49}, []int{7})
	for grind := 10; grind <= impl.MaxGrind; grind++ {
		for _, source := range append(cheatSources(), consoleSource) {
			wholeAsked{r, impl.MaxBits, impl.MaxRate, grind, source}.asksAll(t)
		}
	}
}
