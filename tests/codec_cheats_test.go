package tests

import (
	"slices"
	"testing"

	"loop.example/g00348/impl"
)

// Promise 15, of bytes in which something is changed: they are refused for what Verify refuses the proof for that is read from them.

// asksLikeVerify wants VerifyBytes to answer ErrForm of bytes that are not read, and what Verify answers of those that are.
func (a shownBytes) asksLikeVerify(t *testing.T, what ...any) int {
	t.Helper()
	p, code := impl.ReadProof(a.b, a.s, a.set)
	if code == impl.OK {
		if b, code := impl.ProofBytes(p, a.s, a.set); code != impl.OK || !slices.Equal(b, a.b) {
			t.Fatal("what is read has other bytes", what, code)
		}
		_, code = impl.Verify(a.s, a.set, a.publics, p, a.source)
	} else if code != impl.ErrForm || !sameProof(p, impl.Proof{}) {
		t.Fatal("ReadProof", what, code)
	}
	a.asksCode(t, code, what...)
	return code
}

// In each byte each bit, of proofs of the least lengths; whatever bytes are read, what they are read as has just these.
func TestEachBitOfProofBytes(t *testing.T) {
	for i, source := range cheatSources() {
		a := toldOf(t, fullAsked(1, 2, impl.Setting{Rate: 1, Queries: 1, Grind: 2}, source))
		_, nonce := wordsOfProof(a.s, a.set)
		codes := map[int]int{}
		for bit := range 8 * len(a.b) {
			code := a.with([]byte(turned(string(a.b), bit))).asksLikeVerify(t, "source", i, "bit", bit)
			// Another nonce may do as well, as a script draws the same places behind each.
			if at := bit / 8; code == impl.OK && (at < nonce || at >= nonce+4) {
				t.Fatal("source", i, "bit", bit, "is accepted")
			}
			codes[code]++
		}
		for _, code := range []int{impl.ErrForm, impl.ErrSum, impl.ErrClaim, impl.ErrGrind, impl.ErrPath} {
			if codes[code] == 0 {
				t.Error("source", i, "no bit comes to", impl.CodeWord(code), codes)
			}
		}
	}
}

// In each byte some bit, of greater ones.
func TestEachByteOfProofBytes(t *testing.T) {
	for i, source := range cheatSources() {
		for _, a := range []shownBytes{
			toldOf(t, fullAsked(2, 4, impl.Setting{Rate: 2, Queries: 2, Grind: 3}, source)),
			toldOf(t, fullAsked(5, 5, impl.Setting{Rate: 1, Queries: 2, Grind: 1}, source)),
		} {
			_, nonce := wordsOfProof(a.s, a.set)
			for at := range a.b {
				code := a.with([]byte(turned(string(a.b), 8*at+at%8))).asksLikeVerify(t, "source", i, "byte", at)
				if code == impl.OK && (at < nonce || at >= nonce+4) {
					t.Fatal("source", i, "byte", at, "is accepted")
				}
			}
		}
	}
}

// A part that is another one is refused by the step of chapter 14 that it belongs to.
func TestChangedProofsAreRefusedFromTheirBytes(t *testing.T) {
	for _, source := range cheatSources() {
		right := shownOf(t, rightProveAsked(source))
		for i, f := range refusalFaults(t) {
			a := right.changed(func(*impl.Proof) {})
			f.does(&a)
			shownBytes{a.proveAsked, asksReadBack(t, a.p, a.s, a.set)}.asksCode(t, f.code, "fault", i)
		}
	}
}

// Sizes and sources of all sorts, also such as draw noughts and ones, behind which a change is not always seen.
func TestProofsChangedInAnyPartByTheirBytes(t *testing.T) {
	for i, a := range slices.Concat(someAsked(2, 3), oneMatrixAlone(1, 2), oneMatrixAlone(3, 4)) {
		a.set.Grind = i % 3
		right := shownOf(t, a)
		for j, does := range anyChanges(right.p) {
			other := right.changed(does)
			want := plainRefusal(t, a, other.p)
			shownBytes{a, asksReadBack(t, other.p, a.s, a.set)}.asksCode(t, want.code, "case", i, "change", j)
		}
	}
}

// Proofs of what does not satisfy, made to fit step by step, are no better off by their bytes.
func TestLiesByTheirBytes(t *testing.T) {
	set := impl.Setting{Rate: 2, Queries: 3, Grind: 2}
	for _, size := range [][2]int{{1, 2}, {2, 3}, {5, 5}} {
		for _, source := range cheatSources() {
			a := fullAsked(size[0], size[1], set, source)
			a.s = failing(a.s, 1)
			for fits, want := range lieCodes {
				shownBytes{a, asksReadBack(t, lied(t, a, fits), a.s, set)}.asksCode(t, want.code, "fits", fits)
			}
		}
	}
}

// Other than what was proved: public numbers, settings, systems and sources of a verifier's own.
func TestBytesOfOtherThings(t *testing.T) {
	for i, source := range cheatSources() {
		a := toldOf(t, fullAsked(2, 3, impl.Setting{Rate: 1, Queries: 3, Grind: 4}, source))
		for j, c := range []struct {
			does           func(b *shownBytes)
			sponge, script int
		}{
			{func(*shownBytes) {}, impl.OK, impl.OK},
			{func(b *shownBytes) { b.publics = append([]int{add(b.publics[0], 1)}, b.publics[1:]...) }, impl.ErrSum, impl.ErrClaim},
			{func(b *shownBytes) { b.publics = make([]int, 3) }, impl.ErrSum, impl.ErrClaim},
			{func(b *shownBytes) { b.set.Grind = 0 }, impl.ErrSum, impl.OK},
			{func(b *shownBytes) { b.set.Grind = 12 }, impl.ErrSum, impl.ErrGrind},
			{func(b *shownBytes) { b.s = failing(b.s, 1) }, impl.ErrSum, impl.ErrClaim},
			{func(b *shownBytes) { b.s.A, b.s.B, b.s.C = nil, nil, nil }, impl.ErrSum, impl.ErrClaim},
			{func(b *shownBytes) { b.source.State = hashed("others") }, impl.ErrSum, impl.ErrGrind},
			{func(b *shownBytes) { b.source.Count = 5 }, impl.OK, impl.OK},
			{func(b *shownBytes) { b.source.At = 1 }, impl.OK, impl.ErrSum},
			{func(b *shownBytes) { b.source.Script = nil }, impl.OK, impl.ErrSum},
			{func(b *shownBytes) { b.set.Rate = 2 }, impl.ErrForm, impl.ErrForm},
			{func(b *shownBytes) { b.set.Queries = 2 }, impl.ErrForm, impl.ErrForm},
			{func(b *shownBytes) { b.s.Rows = 3 }, impl.ErrForm, impl.ErrForm},
			{func(b *shownBytes) { b.s.Cols = 4 }, impl.ErrForm, impl.ErrForm},
			{func(b *shownBytes) { b.s.Publics = 2 }, impl.ErrPublic, impl.ErrPublic},
			{func(b *shownBytes) { b.publics = nil }, impl.ErrPublic, impl.ErrPublic},
		} {
			b := a
			c.does(&b)
			b.asksCode(t, []int{c.sponge, c.script}[i], "case", j, "source", i)
		}
	}
}
