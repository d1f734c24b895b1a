package tests

import (
	"slices"
	"strings"
	"testing"

	"loop.example/g00348/impl"
)

// Promise 15, of proofs that are told by their bytes and read back. Bytes that are none of a proof are tested in codec_faults_test.go, bytes in which something is changed in codec_cheats_test.go.

// plainProofBytes are the parts as chapter 15 says their order.
func plainProofBytes(p impl.Proof) []byte {
	return slices.Concat(
		[]byte(p.Root), bytesOf(slices.Concat(p.Gates...)), bytesOf([]impl.Ext{p.VA}), bytesOf([]impl.Ext{p.VB}), bytesOf([]impl.Ext{p.VC}),
		bytesOf(slices.Concat(p.Wires...)), bytesOf([]impl.Ext{p.VW}), plainBytes(p.Open),
	)
}

func plainProofSize(s impl.System, set impl.Setting) int {
	return 32 + 32*s.Rows + 24 + 24*s.Cols + 8 + plainSize(s.Cols-1, set)
}

// asksReadBack wants a proof to be told by just its bytes, as many as there are to be, and read from them part by part.
func asksReadBack(t *testing.T, p impl.Proof, s impl.System, set impl.Setting, what ...any) []byte {
	t.Helper()
	b, code := impl.ProofBytes(p, s, set)
	if code != impl.OK || !slices.Equal(b, plainProofBytes(p)) {
		t.Fatal("ProofBytes of", s.Rows, s.Cols, set, what, len(b), code)
	}
	if size, code := impl.ProofSize(s, set); size != len(b) || size != plainProofSize(s, set) || code != impl.OK {
		t.Fatal("ProofSize of", s.Rows, s.Cols, set, what, size, len(b), code)
	}
	if back, code := impl.ReadProof(b, s, set); !sameProof(back, p) || code != impl.OK {
		t.Fatal("ReadProof of", s.Rows, s.Cols, set, what, code)
	}
	return b
}

// shownBytes is what VerifyBytes is handed, and the privates of whoever proved it.
type shownBytes struct {
	proveAsked
	b []byte
}

func (a shownBytes) asksCode(t *testing.T, want int, what ...any) {
	t.Helper()
	if ok, code := impl.VerifyBytes(a.s, a.set, a.publics, a.b, a.source); ok != (want == impl.OK) || code != want {
		t.Fatal("VerifyBytes of", a.s.Rows, a.s.Cols, a.set, len(a.b), what, "has", ok, code, "is to have", want)
	}
}

// toldOf is what is proved, by its bytes.
func toldOf(t *testing.T, a proveAsked, what ...any) shownBytes {
	t.Helper()
	return shownBytes{a, asksReadBack(t, proved(t, a), a.s, a.set, what...)}
}

func TestProofsAreReadBackAndAccepted(t *testing.T) {
	eachAsked(func(a proveAsked) { toldOf(t, a).asksCode(t, impl.OK) })
}

// The least and the greatest systems, of as many public numbers as there may be and of none, in each setting, whoever draws.
func TestProofsOfTheEdgesAreReadBack(t *testing.T) {
	for _, rows := range []int{1, 5} {
		for _, cols := range []int{2, 5} {
			for i, set := range someSettings() {
				for j, source := range proofSources() {
					toldOf(t, fullAsked(rows, cols, set, source), "source", j).asksCode(t, impl.OK, "source", j)
					none := oneMatrixAlone(rows, cols)[(i+j)%4]
					none.set, none.source = set, source
					toldOf(t, none, "no public numbers, source", j).asksCode(t, impl.OK, "no public numbers, source", j)
				}
			}
		}
	}
}

func TestProofsOfAllSettingsAreReadBack(t *testing.T) {
	for rate := 1; rate <= impl.MaxRate; rate++ {
		for queries := 1; queries <= impl.MaxQueries; queries++ {
			for i, source := range cheatSources() {
				set := impl.Setting{Rate: rate, Queries: queries, Grind: (rate*queries + i) % 5}
				toldOf(t, fullAsked(1+queries%5, 2+queries%4, set, source)).asksCode(t, impl.OK, "source", i)
			}
		}
	}
	for grind := 0; grind <= impl.MaxGrind; grind++ {
		for i, source := range cheatSources() {
			toldOf(t, fullAsked(1, 2, impl.Setting{Rate: 1, Queries: 1, Grind: grind}, source)).asksCode(t, impl.OK, "source", i)
		}
	}
}

// asksCircuitBytes wants what satisfies a circuit to be proved, in as many bytes as is told, and accepted from them.
func asksCircuitBytes(t *testing.T, r run, set impl.Setting, source impl.Source) {
	t.Helper()
	p, code := impl.ProveCircuit(r.c, set, r.publics, r.inputs, source)
	if code != impl.OK {
		t.Fatal("ProveCircuit", r, set, code)
	}
	a := proveAsked{s: plainSystem(r.c), set: set, publics: r.publics, source: source}
	shownBytes{a, asksReadBack(t, p, a.s, set, r)}.asksCode(t, impl.OK, r)
}

func TestCircuitsProofsAreReadBack(t *testing.T) {
	settings, sources := someSettings(), proofSources()
	held := 0
	for i, c := range slices.Concat(allCircuits(1), mixedCircuits(), longestCircuits()) {
		ones := runOf(c, slices.Repeat([]int{1}, plainCount(c, impl.GaPublic)), slices.Repeat([]int{1}, plainCount(c, impl.GaInput)))
		if ones.holds {
			asksCircuitBytes(t, ones, settings[i%len(settings)], sources[i%len(sources)])
			held++
		}
	}
	if held == 0 {
		t.Error("no circuit holds")
	}
}

// What is read back need not have been proved: hashes are any bytes, elements and nonces all in their bounds.
func TestAnyRightProofIsReadBack(t *testing.T) {
	nonces := []int{0, 1, 255, 256, 65534, 65535}
	eachSize(func(rows, cols int) {
		s := impl.System{Rows: rows, Cols: cols, A: entriesIn(1<<rows, 1<<cols, 3)}
		for i, set := range someSettings() {
			p := madeUpProof(s, set)
			p.Open.Nonce = nonces[(rows+cols+i)%len(nonces)]
			asksReadBack(t, p, s, set, "nonce", p.Open.Nonce)
			for _, a := range []impl.Ext{ext0, ext1, extX, {A: prime - 1, B: prime - 1}} {
				asksReadBack(t, filledProof(p, a), s, set, "of", a)
			}
		}
	})
}

// filledProof has one element in all of a proof's places of elements.
func filledProof(p impl.Proof, a impl.Ext) impl.Proof {
	p = copiedProof(p)
	for _, list := range slices.Concat(p.Gates, p.Wires, p.Open.Rounds) {
		fillWith(list, a)
	}
	for _, q := range p.Open.Queries {
		fillWith(q.Pairs, a)
	}
	p.VA, p.VB, p.VC, p.VW, p.Open.Last = a, a, a, a, a
	return p
}

// bothOf is a number's bytes, twice: those of an element of two such numbers.
func bothOf(n int) string { return strings.Repeat(fourBytes(n), 2) }

// Each element has its own number, each hash its own letter: none stands in another one's place.
func TestProofBytesByHand(t *testing.T) {
	next := 0
	elements := func(n int) []impl.Ext {
		list := make([]impl.Ext, n)
		for i := range list {
			next++
			list[i] = impl.Ext{A: next << 8, B: next << 8}
		}
		return list
	}
	hash := func(letter string) string { return strings.Repeat(letter, 32) }
	s, set := impl.System{Rows: 2, Cols: 3, Publics: 3}, impl.Setting{Rate: 1, Queries: 2, Grind: 12}
	p := impl.Proof{Root: hash("r"), Gates: [][]impl.Ext{elements(4), elements(4)}}
	values := elements(3)
	p.VA, p.VB, p.VC = values[0], values[1], values[2]
	p.Wires = [][]impl.Ext{elements(3), elements(3), elements(3)}
	p.VW = elements(1)[0]
	p.Open = impl.Opening{Rounds: [][]impl.Ext{elements(3), elements(3)}, Roots: []string{hash("s")}, Last: elements(1)[0], Nonce: 0x1234}
	for _, letters := range []string{"abc", "def"} {
		paths := [][]string{{hash(letters[:1]), hash(letters[1:2])}, {hash(letters[2:])}}
		p.Open.Queries = append(p.Open.Queries, impl.Query{Pairs: elements(4), Paths: paths})
	}
	var want strings.Builder
	numbers := func(from, to int) {
		for n := from; n <= to; n++ {
			want.WriteString(bothOf(n << 8))
		}
	}
	want.WriteString(hash("r"))
	// Two rounds of 4, VA, VB, VC, three rounds of 3, VW, two rounds of 3.
	numbers(1, 8+3+9+1+6)
	want.WriteString(hash("s"))
	numbers(28, 28)
	want.WriteString("\x00\x00\x12\x34")
	numbers(29, 32)
	want.WriteString(hash("a") + hash("b") + hash("c"))
	numbers(33, 36)
	want.WriteString(hash("d") + hash("e") + hash("f"))
	if b := asksReadBack(t, p, s, set); string(b) != want.String() {
		t.Error(b)
	}
}

// How many bytes there are hangs on Rows, Cols, Rate and Queries alone.
func TestProofSize(t *testing.T) {
	eachSize(func(rows, cols int) {
		systems := []impl.System{
			{Rows: rows, Cols: cols}, {Rows: rows, Cols: cols, Publics: 1<<(cols-1) - 1},
			{Rows: rows, Cols: cols, Publics: 1, A: entriesIn(1<<rows, 1<<cols, 5), C: entriesIn(1<<rows, 1<<cols, 8)},
		}
		for rate := 1; rate <= impl.MaxRate; rate++ {
			for queries := 1; queries <= impl.MaxQueries; queries++ {
				for i, s := range systems {
					set := impl.Setting{Rate: rate, Queries: queries, Grind: 6 * i}
					if size, code := impl.ProofSize(s, set); size != plainProofSize(s, set) || code != impl.OK {
						t.Error(rows, cols, set, "system", i, size, code)
					}
				}
			}
		}
	})
}

func TestProofSizeByHand(t *testing.T) {
	for _, c := range []struct {
		rows, cols int
		set        impl.Setting
		want       int
	}{
		{1, 2, impl.Setting{Rate: 1, Queries: 1}, 228},
		{5, 5, impl.Setting{Rate: 3, Queries: 8}, 5668},
		{5, 2, impl.Setting{Rate: 1, Queries: 1, Grind: 12}, 228 + 4*32},
		{1, 2, impl.Setting{Rate: 1, Queries: 2}, 228 + 16 + 32},
		{1, 2, impl.Setting{Rate: 2, Queries: 1}, 228 + 32},
		{1, 3, impl.Setting{Rate: 1, Queries: 1}, 228 + 24 + 24 + 32 + 16 + 2*32},
	} {
		if size, code := impl.ProofSize(impl.System{Rows: c.rows, Cols: c.cols}, c.set); size != c.want || code != impl.OK {
			t.Error(c, size, code)
		}
	}
}

// What nobody proved, but has a proof's lengths, is read, and refused for what Verify refuses it for.
func TestWhatNobodyProvedIsReadAndRefused(t *testing.T) {
	eachSize(func(rows, cols int) {
		for i, set := range someSettings() {
			for _, source := range cheatSources() {
				a := fullAsked(rows, cols, set, source)
				p := madeUpProof(a.s, set)
				want := plainRefusal(t, a, p)
				if want == accepted {
					t.Fatal(rows, cols, set, "what nobody proved is accepted")
				}
				shownProof{a, p}.asksCode(t, want.code, "setting", i)
				shownBytes{a, asksReadBack(t, p, a.s, set)}.asksCode(t, want.code, "setting", i)
			}
		}
	})
}
