package tests

import (
	"slices"
	"testing"

	"loop.example/g00348/impl"
)

// Promise 15, of bytes that are cut, drawn out or of wrong numbers, of proofs that are not right, of wrong systems, settings, numbers and sources, and of two things that are wrong at once.

// asksCodeOfReading wants a code of ReadProof, and no proof.
func asksCodeOfReading(t *testing.T, b []byte, s impl.System, set impl.Setting, want int, what ...any) {
	t.Helper()
	if p, code := impl.ReadProof(b, s, set); !sameProof(p, impl.Proof{}) || code != want {
		t.Fatal("ReadProof of", len(b), s.Rows, s.Cols, set, what, "has", code, "is to have", want)
	}
}

// asksNoForm wants bytes to be those of no right proof.
func (a shownBytes) asksNoForm(t *testing.T, what ...any) {
	t.Helper()
	asksCodeOfReading(t, a.b, a.s, a.set, impl.ErrForm, what...)
	a.asksCode(t, impl.ErrForm, what...)
}

func (a shownBytes) with(b []byte) shownBytes {
	a.b = b
	return a
}

// toldOfSizes are the bytes of proofs of the least and of the greatest lengths, and of some between, of either sort of sources.
func toldOfSizes(t *testing.T) []shownBytes {
	t.Helper()
	var list []shownBytes
	for _, source := range cheatSources() {
		// A system of few entries is asked faster whether it is right.
		greatest := oneMatrixAlone(5, 5)[3]
		greatest.set, greatest.source = impl.Setting{Rate: 3, Queries: 8, Grind: 1}, source
		list = append(list,
			toldOf(t, fullAsked(1, 2, impl.Setting{Rate: 1, Queries: 1}, source)),
			toldOf(t, fullAsked(2, 3, rightSetting, source)),
			toldOf(t, greatest),
		)
	}
	return list
}

func TestProofBytesCutAnywhere(t *testing.T) {
	for _, a := range toldOfSizes(t) {
		for n := range a.b {
			a.with(a.b[:n]).asksNoForm(t, "the first", n)
			a.with(a.b[len(a.b)-n:]).asksNoForm(t, "the last", n)
			a.with(slices.Delete(slices.Clone(a.b), n, n+1)).asksNoForm(t, "without byte", n)
		}
		for _, n := range []int{2, 4, 8, 24, 32} {
			a.with(slices.Delete(slices.Clone(a.b), 32, 32+n)).asksNoForm(t, "without", n)
		}
	}
}

func TestProofBytesDrawnOut(t *testing.T) {
	for _, a := range toldOfSizes(t) {
		for n := range len(a.b) + 1 {
			a.with(slices.Insert(slices.Clone(a.b), n, 0)).asksNoForm(t, "a byte more at", n)
		}
		for _, n := range []int{1, 2, 4, 8, 24, 32, 228, len(a.b), impl.MaxText - len(a.b)} {
			a.with(append(slices.Clone(a.b), make([]byte, n)...)).asksNoForm(t, n, "behind")
			a.with(append(make([]byte, n), a.b...)).asksNoForm(t, n, "ahead")
			a.with(append(slices.Clone(a.b), slices.Repeat(a.b, n)[:n]...)).asksNoForm(t, n, "of its own behind")
		}
		for _, b := range [][]byte{nil, {}, {0}, make([]byte, 32), make([]byte, impl.MaxText)} {
			a.with(b).asksNoForm(t, "noughts")
		}
	}
}

// Bytes are those of a proof of a system of these Rows and Cols in a setting of this Rate and these Queries alone.
func TestProofBytesOfOtherSizes(t *testing.T) {
	a := toldOf(t, rightProveAsked(cheatSources()[0]))
	eachSize(func(rows, cols int) {
		for rate := 1; rate <= impl.MaxRate; rate++ {
			for queries := 1; queries <= impl.MaxQueries; queries++ {
				b := a
				b.s, b.publics = impl.System{Rows: rows, Cols: cols}, nil
				b.set = impl.Setting{Rate: rate, Queries: queries}
				if plainProofSize(b.s, b.set) != len(a.b) {
					b.asksNoForm(t)
				}
			}
		}
	})
}

// wordsOfProof are where the bytes of a proof have numbers below Prime, and where the nonce stands.
func wordsOfProof(s impl.System, set impl.Setting) ([]int, int) {
	var numbers []int
	at := 32
	for range 2 * (4*s.Rows + 3 + 3*s.Cols + 1) {
		numbers = append(numbers, at)
		at += 4
	}
	behind, nonce := wordsOfBytes(s.Cols-1, set)
	for _, n := range behind {
		numbers = append(numbers, at+n)
	}
	return numbers, at + nonce
}

func TestProofBytesOfWrongNumbers(t *testing.T) {
	for _, a := range toldOfSizes(t) {
		numbers, nonce := wordsOfProof(a.s, a.set)
		for _, at := range numbers {
			for _, text := range []string{fourBytes(prime), fourBytes(prime + 1), "\x80\x00\x00\x00", "\xff\xff\xff\xff"} {
				a.with(withBytes(a.b, at, text)).asksNoForm(t, "number at", at)
			}
			changed := withBytes(a.b, at, fourBytes(prime-1))
			if p, code := impl.ReadProof(changed, a.s, a.set); code != impl.OK || !slices.Equal(plainProofBytes(p), changed) {
				t.Fatal(a.s.Rows, a.s.Cols, a.set, "the greatest number at", at, code)
			}
		}
		for _, n := range []int{65536, 65537, 1 << 24, 1 << 31, 1<<32 - 1} {
			a.with(withBytes(a.b, nonce, fourBytes(n))).asksNoForm(t, "nonce", n)
		}
		for _, n := range []int{0, 1, 65535} {
			if p, code := impl.ReadProof(withBytes(a.b, nonce, fourBytes(n)), a.s, a.set); code != impl.OK || p.Open.Nonce != n {
				t.Fatal(a.s.Rows, a.s.Cols, a.set, "nonce", n, p.Open.Nonce, code)
			}
		}
	}
}

// Where a number is too great, and all ahead of it is refused by Verify, too, the form is told.
func TestFormIsToldAheadOfRefusals(t *testing.T) {
	for _, source := range cheatSources() {
		right := shownOf(t, rightProveAsked(source))
		numbers, nonce := wordsOfProof(right.s, right.set)
		for i, f := range refusalFaults(t) {
			a := right.changed(func(*impl.Proof) {})
			f.does(&a)
			b := shownBytes{a.proveAsked, asksReadBack(t, a.p, a.s, a.set)}
			for _, at := range numbers {
				b.with(withBytes(b.b, at, fourBytes(prime))).asksNoForm(t, "fault", i, "number at", at)
			}
			b.with(withBytes(b.b, nonce, fourBytes(65536))).asksNoForm(t, "fault", i, "nonce")
			b.with(b.b[:len(b.b)-1]).asksNoForm(t, "fault", i, "cut")
		}
	}
}

// asksNoBytes wants that a proof has none.
func asksNoBytes(t *testing.T, p impl.Proof, s impl.System, set impl.Setting, what ...any) {
	t.Helper()
	if b, code := impl.ProofBytes(p, s, set); len(b) != 0 || code != impl.ErrBad {
		t.Fatal("ProofBytes of", s.Rows, s.Cols, set, what, "has", len(b), code)
	}
}

func TestWhatIsNoProofHasNoBytes(t *testing.T) {
	for _, size := range [][2]int{{1, 3}, {2, 3}, {3, 5}} {
		for _, source := range cheatSources() {
			a := shownOf(t, fullAsked(size[0], size[1], rightSetting, source))
			for name, p := range notProofs(a.p) {
				asksNoBytes(t, p, a.s, a.set, name)
			}
		}
	}
	asksNoBytes(t, impl.Proof{}, impl.System{Rows: 1, Cols: 2}, impl.Setting{Rate: 1, Queries: 1})
}

// A proof has bytes for its own system and setting alone (but for the bits of its nonce, and what stands in the matrices).
func TestProofsOfOthersHaveNoBytes(t *testing.T) {
	right := shownOf(t, rightProveAsked(cheatSources()[0]))
	eachSize(func(rows, cols int) {
		for rate := 1; rate <= impl.MaxRate; rate++ {
			for queries := 1; queries <= impl.MaxQueries; queries++ {
				s, set := impl.System{Rows: rows, Cols: cols}, impl.Setting{Rate: rate, Queries: queries, Grind: queries + rate}
				if rows == right.s.Rows && cols == right.s.Cols && rate == right.set.Rate && queries == right.set.Queries {
					asksReadBack(t, right.p, s, set)
				} else {
					asksNoBytes(t, right.p, s, set)
				}
			}
		}
	})
}

func TestBytesOfWrongSystemsAndSettings(t *testing.T) {
	for _, source := range cheatSources() {
		right := shownOf(t, rightProveAsked(source))
		a := toldOf(t, right.proveAsked)
		asks := func(s impl.System, set impl.Setting, what ...any) {
			t.Helper()
			for _, p := range []impl.Proof{right.p, {}, filledProof(right.p, badExt)} {
				asksNoBytes(t, p, s, set, what...)
			}
			if size, code := impl.ProofSize(s, set); size != 0 || code != impl.ErrBad {
				t.Fatal("ProofSize", what, "has", size, code)
			}
			b := a
			b.s, b.set = s, set
			for _, text := range [][]byte{a.b, nil, a.b[1:], make([]byte, impl.MaxText)} {
				asksCodeOfReading(t, text, s, set, impl.ErrBad, what...)
				b.with(text).asksCode(t, impl.ErrBad, what...)
			}
			asksCodeOfReading(t, make([]byte, tooLong), s, set, impl.ErrLong, what...)
			b.with(make([]byte, tooLong)).asksCode(t, impl.ErrLong, what...)
		}
		for i, s := range wrongSystems() {
			asks(s, rightSetting, "system", i)
			asks(s, impl.Setting{}, "system", i, "and no setting")
		}
		for _, set := range wrongSettings() {
			asks(right.s, set, set)
		}
	}
}

func TestBytesThatAreTooMany(t *testing.T) {
	for _, a := range toldOfSizes(t) {
		for _, n := range []int{tooLong, 2 * impl.MaxText} {
			for _, b := range [][]byte{make([]byte, n), append(slices.Clone(a.b), make([]byte, n-len(a.b))...)} {
				asksCodeOfReading(t, b, a.s, a.set, impl.ErrLong, n)
				a.with(b).asksCode(t, impl.ErrLong, n)
			}
		}
	}
}

func TestVerifyBytesFaults(t *testing.T) {
	for _, source := range cheatSources() {
		right := toldOf(t, rightProveAsked(source))
		for _, bad := range wrongNumbers {
			for _, n := range []int{1, 3, 4, impl.MaxList} {
				a := right
				a.publics = numbersWith(n, n-1, bad)
				a.asksCode(t, impl.ErrBad, n, "public numbers with", bad)
			}
		}
		for i, s := range wrongSources() {
			a := right
			a.source = s
			a.asksCode(t, impl.ErrBad, "source", i)
		}
		for i, s := range fewForProof() {
			a := right
			a.source = s
			a.asksCode(t, impl.ErrMany, "source", i)
		}
		for _, n := range []int{0, 1, 2, 4, 5, 8, impl.MaxList} {
			a := right
			a.publics = make([]int, n)
			a.asksCode(t, impl.ErrPublic, n, "public numbers")
		}
		for _, n := range []int{longList, 2 * impl.MaxList} {
			a := right
			a.publics = make([]int, n)
			a.asksCode(t, impl.ErrLong, n, "public numbers")
		}
	}
}

// Just 200 draws left are enough for the longest proof there is, of either sort of draws; 199 are not.
func TestBytesWithJustEnoughDrawsLeft(t *testing.T) {
	set := impl.Setting{Rate: 3, Queries: 8, Grind: 1}
	for _, script := range [][]impl.Ext{nil, mixedExts(64)} {
		for _, n := range [][2]int{{allDraws - 200, 0}, {0, allDraws - 200}, {allDraws - 200, allDraws - 200}} {
			a := toldOf(t, fullAsked(5, 5, set, impl.Source{State: hashed("proofs"), Script: script, At: n[0], Count: n[1]}))
			a.asksCode(t, impl.OK, n)
			if n[0] > 0 {
				a.source.At++
			} else {
				a.source.Count++
			}
			a.asksCode(t, impl.ErrMany, n)
		}
	}
}

// bytesFault is one thing that may be wrong, with its code.
type bytesFault struct {
	code int
	does func(a *shownBytes)
}

// bytesFaults stand in the order in which rule 8, chapter 13 and chapter 15 name them.
func bytesFaults(right proveAsked) []bytesFault {
	list := []bytesFault{
		{impl.ErrLong, func(a *shownBytes) { a.b = make([]byte, tooLong) }},
		{impl.ErrLong, func(a *shownBytes) { a.b = append(slices.Clone(a.b), make([]byte, tooLong)...) }},
	}
	for _, f := range faultsOfStart(right) {
		list = append(list, bytesFault{f.code, func(a *shownBytes) {
			p := shownProof{proveAsked: a.proveAsked}
			f.does(&p)
			a.proveAsked = p.proveAsked
		}})
	}
	for _, does := range []func(b []byte) []byte{
		func([]byte) []byte { return nil },
		func(b []byte) []byte { return b[:len(b)/2] },
		func([]byte) []byte { return make([]byte, impl.MaxText) },
		func(b []byte) []byte { return append(slices.Clone(b), 0) },
		func(b []byte) []byte { return slices.Repeat([]byte{0xff}, len(b)) },
		func(b []byte) []byte { return withBytes(b, 32, fourBytes(prime)) },
	} {
		list = append(list, bytesFault{impl.ErrForm, func(a *shownBytes) { a.b = does(a.b) }})
	}
	return append(list,
		bytesFault{impl.ErrSum, func(a *shownBytes) { a.b = []byte(turned(string(a.b), 8*39)) }},
		bytesFault{impl.ErrClaim, func(a *shownBytes) { a.b = []byte(turned(string(a.b), 8*(32+64+7))) }},
	)
}

func TestVerifyBytesOrderOfCodes(t *testing.T) {
	for _, source := range cheatSources() {
		asked := rightProveAsked(source)
		right, faults := toldOf(t, asked), bytesFaults(asked)
		right.asksCode(t, impl.OK)
		if len(faults) != 2+19+6+2 {
			t.Fatal("faults:", len(faults))
		}
		for i, first := range faults {
			for j, second := range faults[i:] {
				// The first one is done last, so that the other one can't take it away again.
				a := right
				if j > 0 {
					second.does(&a)
				}
				first.does(&a)
				a.asksCode(t, first.code, "faults", i, i+j)
			}
		}
	}
}
