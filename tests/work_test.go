package tests

import (
	"slices"
	"strings"
	"testing"

	"loop.example/g00348/impl"
)

// Promise 16, of how often a Verify that accepts does the permutation. Here all texts that it hashes are hashed one by one; in work_count_test.go a copy of the program counts.

// counted is a sponge that counts what its hashes cost.
type counted struct {
	state        string
	count        int
	permutations int
}

// hash counts a block for each 136 bytes of the message with a byte of marks, or what there is of them.
func (k *counted) hash(texts ...string) string {
	text := strings.Join(texts, "")
	k.permutations += (len(text) + 1 + 135) / 136
	return impl.Keccak256([]byte(text))
}

func (k *counted) take(text string) {
	k.state, k.count = k.hash(k.state, "absorb", fourBytes(len(text)), text), 0
}

func (k *counted) takeExts(list ...impl.Ext) { k.take(string(bytesOf(list))) }

// draw answers A alone: places are all that is made of what is drawn here.
func (k *counted) draw(n int) []int {
	list := make([]int, n)
	for i := range list {
		_, a := plainDraw(impl.Source{State: k.state, Count: k.count})
		k.hash(k.state, "draw", fourBytes(k.count))
		k.count++
		list[i] = a.A
	}
	return list
}

func (k *counted) takeRound(round []impl.Ext) {
	k.takeExts(round...)
	k.draw(1)
}

// root is what a leaf at place i leads to.
func (k *counted) root(i int, leaf string, path []string) string {
	h := k.hash("\x00", leaf)
	for _, beside := range path {
		if i%2 == 0 {
			h = k.hash("\x01", h, beside)
		} else {
			h = k.hash("\x01", beside, h)
		}
		i /= 2
	}
	return h
}

// openTexts is whether the nonce does and all leaves lead to their roots, text by text as chapter 10 says it.
func (k *counted) openTexts(root string, vars int, set impl.Setting, o impl.Opening) bool {
	for i, round := range o.Rounds {
		k.takeRound(round)
		if i < len(o.Roots) {
			k.take(o.Roots[i])
		}
	}
	k.takeExts(o.Last)
	holds := plainNonceDoes(k.state, set.Grind, o.Nonce)
	k.hash(k.state, "grind", fourBytes(o.Nonce))
	k.take(fourBytes(o.Nonce))
	leaves := 1 << (vars + set.Rate - 1)
	roots := append([]string{root}, o.Roots...)
	for i, place := range k.draw(set.Queries) {
		q := o.Queries[i]
		for word, path := range q.Paths {
			at := place % leaves % (leaves >> word)
			holds = k.root(at, string(bytesOf(q.Pairs[2*word:2*word+2])), path) == roots[word] && holds
		}
	}
	return holds
}

// verifyTexts is how often the permutation is done for what Verify hashes, text by text as chapters 11, 13 and 14 say it,
// and whether the nonce does and all leaves lead to their roots: they do only if no text ahead was left out.
func verifyTexts(a proveAsked, p impl.Proof) (int, bool) {
	k := &counted{state: a.source.State, count: a.source.Count}
	text := k.hash(string(digestBytes(a.s))) + string([]byte{byte(a.set.Rate), byte(a.set.Queries), byte(a.set.Grind)})
	for _, n := range a.publics {
		text += fourBytes(n)
	}
	k.take(text)
	k.take(p.Root)
	k.draw(a.s.Rows)
	for _, round := range p.Gates {
		k.takeRound(round)
	}
	k.takeExts(p.VA, p.VB, p.VC)
	k.draw(3)
	for _, round := range p.Wires {
		k.takeRound(round)
	}
	k.takeExts(p.VW)
	holds := k.openTexts(p.Root, a.s.Cols-1, a.set, p.Open)
	return k.permutations, holds
}

func workOf(t *testing.T, s impl.System, set impl.Setting) int {
	t.Helper()
	n, code := impl.WorkOf(s, set)
	if code != impl.OK {
		t.Fatal("WorkOf", s.Rows, s.Cols, s.Publics, len(s.A), len(s.B), len(s.C), set, code)
	}
	return n
}

// sponges are new ones, used ones, and such as have just as many draws left as a proof asks for.
func sponges() []impl.Source {
	return slices.DeleteFunc(proofSources(), func(s impl.Source) bool { return len(s.Script) > 0 })
}

// asksWork wants a proof to be accepted, and WorkOf to be what its texts cost.
func asksWork(t *testing.T, a proveAsked) {
	t.Helper()
	right := shownOf(t, a)
	right.asksCode(t, impl.OK)
	want, holds := verifyTexts(a, right.p)
	if !holds {
		t.Fatal(a.s.Rows, a.s.Cols, a.set, "the texts are others")
	}
	if got := workOf(t, a.s, a.set); got != want {
		t.Fatal("WorkOf", a.s.Rows, a.s.Cols, a.s.Publics, len(a.s.A), len(a.s.B), len(a.s.C), a.set, "is", got, "is to be", want)
	}
}

// eachWork goes through all sizes in all settings, of full systems and of ones with a matrix at most.
func eachWork(does func(a proveAsked)) {
	sources, n := sponges(), 0
	eachSize(func(rows, cols int) {
		for rate := 1; rate <= impl.MaxRate; rate++ {
			for queries := 1; queries <= impl.MaxQueries; queries++ {
				n++
				set, source := impl.Setting{Rate: rate, Queries: queries, Grind: n % 4}, sources[n%len(sources)]
				does(fullAsked(rows, cols, set, source))
				none := oneMatrixAlone(rows, cols)[n%4]
				none.set, none.source = set, source
				does(none)
			}
		}
	})
	for grind := 0; grind <= impl.MaxGrind; grind++ {
		does(fullAsked(1, 2, impl.Setting{Rate: 1, Queries: 1, Grind: grind}, sources[grind%len(sources)]))
	}
}

func TestWorkOfProofsThatAreAccepted(t *testing.T) {
	eachWork(func(a proveAsked) { asksWork(t, a) })
}

func TestWorkOfSystemsOfAllSorts(t *testing.T) {
	sources, n := sponges(), 0
	eachAsked(func(a proveAsked) {
		n++
		a.source = sources[n%len(sources)]
		asksWork(t, a)
	})
}

func TestWorkOfCircuits(t *testing.T) {
	settings, source := someSettings(), impl.Source{State: hashed("proofs")}
	held := 0
	for i, c := range slices.Concat(allCircuits(1), mixedCircuits(), longestCircuits()) {
		r := runOf(c, slices.Repeat([]int{1}, plainCount(c, impl.GaPublic)), slices.Repeat([]int{1}, plainCount(c, impl.GaInput)))
		if r.holds {
			publics, privates := plainWitness(c, r.values)
			asksWork(t, proveAsked{plainSystem(c), settings[i%len(settings)], publics, privates, source})
			held++
		}
	}
	if held == 0 {
		t.Error("no circuit holds")
	}
}

// No proof is needed to know how long its texts are: one is made up of the right lengths.
func asksWorkOfTexts(t *testing.T, s impl.System, set impl.Setting) {
	t.Helper()
	a := proveAsked{s: s, set: set, publics: numbersOf(s.Publics, 3), source: impl.Source{State: hashed("work")}}
	want, _ := verifyTexts(a, madeUpProof(s, set))
	if got := workOf(t, s, set); got != want {
		t.Fatal("WorkOf", s.Rows, s.Cols, s.Publics, len(s.A), len(s.B), len(s.C), set, "is", got, "is to be", want)
	}
}

func TestWorkOfAsManyPublicNumbersAsThereCanBe(t *testing.T) {
	eachSize(func(rows, cols int) {
		for publics := range 1 << (cols - 1) {
			for _, set := range someSettings() {
				asksWorkOfTexts(t, impl.System{Rows: rows, Cols: cols, Publics: publics, B: entriesIn(1<<rows, 1<<cols, publics%8)}, set)
			}
		}
	})
}

// Which matrix has the entries, and what stands in them, is all the same to how many bytes there are.
func TestWorkOfEachNumberOfEntries(t *testing.T) {
	set := impl.Setting{Rate: 1, Queries: 1}
	none := workOf(t, impl.System{Rows: 5, Cols: 5}, set)
	for n := range 601 {
		a, b := min(n, 200), max(min(n-200, 200), 0)
		lists := [][]impl.Entry{entriesIn(32, 32, a), entriesIn(32, 32, b, 1), entriesIn(32, 32, n-a-b, prime-1)}
		for turn := range 3 {
			s := impl.System{Rows: 5, Cols: 5, A: lists[turn], B: lists[(turn+1)%3], C: lists[(turn+2)%3]}
			// "system", three numbers, three lengths; six bytes an entry; a block has 136, one of them a mark.
			if got, want := workOf(t, s, set), none+(21+6*n)/136; got != want {
				t.Fatal(n, "entries, turn", turn, "work", got, "is to be", want)
			}
			if n%50 < 2 {
				asksWorkOfTexts(t, s, set)
			}
		}
	}
}

// 19 entries have a text of 135 bytes: both marks stand in the last one of the block. One more entry is one more block.
func TestWorkAtABlocksEdge(t *testing.T) {
	set := impl.Setting{Rate: 2, Queries: 3}
	for _, c := range []struct{ entries, more int }{{0, 0}, {18, 0}, {19, 0}, {20, 1}, {41, 1}, {42, 2}, {64, 2}, {65, 3}, {87, 3}, {88, 4}, {200, 8}} {
		for i, s := range []impl.System{{A: entriesIn(32, 32, c.entries)}, {B: entriesIn(32, 32, c.entries)}, {C: entriesIn(32, 32, c.entries)}} {
			s.Rows, s.Cols = 5, 5
			if got, want := workOf(t, s, set), workOf(t, impl.System{Rows: 5, Cols: 5}, set)+c.more; got != want {
				t.Error(c.entries, "entries in", i, "work", got, "is to be", want)
			}
		}
	}
	for publics := range 16 {
		// A state, "absorb" and a length, a digest, three numbers; 14 public numbers come to 133 bytes, 15 to 137.
		want := workOf(t, impl.System{Rows: 3, Cols: 5}, set)
		if publics == 15 {
			want++
		}
		if got := workOf(t, impl.System{Rows: 3, Cols: 5, Publics: publics}, set); got != want {
			t.Error(publics, "public numbers, work", got, "is to be", want)
		}
	}
}

func TestWorkByHand(t *testing.T) {
	full := entriesIn(32, 32, 200)
	for _, c := range []struct {
		s    impl.System
		set  impl.Setting
		want int
	}{
		// Digest, start, root; a draw, a round of two, values; three draws, two rounds of two, a value;
		// a round of two, a value, a nonce and its text, a place; a leaf and a hash.
		{impl.System{Rows: 1, Cols: 2}, impl.Setting{Rate: 1, Queries: 1}, 3 + 1 + 2 + 1 + 3 + 4 + 1 + 2 + 1 + 2 + 1 + 2},
		{impl.System{Rows: 1, Cols: 2, Publics: 1}, impl.Setting{Rate: 1, Queries: 1, Grind: 12}, 23},
		{impl.System{Rows: 1, Cols: 2}, impl.Setting{Rate: 3, Queries: 1}, 23 + 2},
		{impl.System{Rows: 1, Cols: 2}, impl.Setting{Rate: 1, Queries: 8}, 23 + 7*3},
		{impl.System{Rows: 5, Cols: 2}, impl.Setting{Rate: 1, Queries: 1}, 23 + 4*3},
		// Two rounds more, of the wires and of the opening, a root; a hash more, and a leaf and a hash.
		{impl.System{Rows: 1, Cols: 3}, impl.Setting{Rate: 1, Queries: 1}, 23 + 4 + 1 + 1 + 2},
		// 3621 bytes, start's 137; of each query four leaves and 6, 5, 4 and 3 hashes.
		{impl.System{Rows: 5, Cols: 5, Publics: 15, A: full, B: full, C: full}, impl.Setting{Rate: 3, Queries: 8, Grind: 12}, 27 + 2 + 1 + 5 + 10 + 1 + 3 + 10 + 1 + 8 + 3 + 1 + 2 + 8 + 8*22},
		{impl.System{Rows: 5, Cols: 5}, impl.Setting{Rate: 3, Queries: 8}, 258 - 26 - 1},
	} {
		if got := workOf(t, c.s, c.set); got != c.want {
			t.Error("WorkOf", c.s.Rows, c.s.Cols, c.s.Publics, c.set, "is", got, "is to be", c.want)
		}
	}
}

// KeccakCalls of the two texts that have no length of their own is all that entries and public numbers change.
func TestWorkHangsOnTextsAlone(t *testing.T) {
	eachSize(func(rows, cols int) {
		for i, s := range systemsOf(rows, cols) {
			least := impl.System{Rows: rows, Cols: cols}
			for _, set := range someSettings() {
				digest, _ := impl.KeccakCalls(len(digestBytes(s)))
				start, _ := impl.KeccakCalls(32 + 6 + 4 + 32 + 3 + 4*s.Publics)
				if got, want := workOf(t, s, set), workOf(t, least, set)-2+digest+start; got != want {
					t.Fatal(rows, cols, set, "system", i, "work", got, "is to be", want)
				}
				other := set
				other.Grind = 12 - set.Grind
				if workOf(t, s, other) != workOf(t, s, set) {
					t.Fatal(rows, cols, set, "hangs on Grind")
				}
			}
		}
	})
}
