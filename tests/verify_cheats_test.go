package tests

import (
	"fmt"
	"slices"
	"testing"

	"loop.example/g00348/impl"
)

// Promise 14, of proofs in which something is changed: of one part by itself, of parts that are made to fit, and of other things than were proved.

func copiedProof(p impl.Proof) impl.Proof {
	lists := func(list [][]impl.Ext) [][]impl.Ext {
		list = slices.Clone(list)
		for i := range list {
			list[i] = slices.Clone(list[i])
		}
		return list
	}
	p.Gates, p.Wires, p.Open = lists(p.Gates), lists(p.Wires), copied(p.Open)
	return p
}

// changed is the same with something done to a copy of the proof.
func (a shownProof) changed(does func(p *impl.Proof)) shownProof {
	a.p = copiedProof(a.p)
	does(&a.p)
	return a
}

// asksLikeTheCalls wants Verify to answer what the calls of chapter 14 come to, whatever that is.
func (a shownProof) asksLikeTheCalls(t *testing.T, what ...any) refusal {
	t.Helper()
	want := plainRefusal(t, a.proveAsked, a.p)
	a.asksCode(t, want.code, what...)
	return want
}

// eachCheat goes through proofs of several sizes, of either sort of sources, whose draws are no noughts and ones.
func eachCheat(t *testing.T, set impl.Setting, does func(a shownProof, sponge bool)) {
	t.Helper()
	for _, size := range [][2]int{{1, 2}, {2, 3}, {3, 2}, {1, 5}, {5, 4}, {5, 5}} {
		for i, source := range cheatSources() {
			does(shownOf(t, fullAsked(size[0], size[1], set, source)), i == 0)
		}
	}
}

// The first two values of a round are refused at once, a further one by the next round, the last round's by the last claim.
func TestProofsWithOtherRounds(t *testing.T) {
	eachCheat(t, rightSetting, func(a shownProof, _ bool) {
		for _, sum := range []struct {
			where string
			of    func(p *impl.Proof) [][]impl.Ext
		}{
			{"gates", func(p *impl.Proof) [][]impl.Ext { return p.Gates }},
			{"wires", func(p *impl.Proof) [][]impl.Ext { return p.Wires }},
			{"opening", func(p *impl.Proof) [][]impl.Ext { return p.Open.Rounds }},
		} {
			rounds := sum.of(&a.p)
			for at, round := range rounds {
				for place, value := range round {
					want := refusal{sum.where, impl.ErrSum}
					if place >= 2 && at == len(rounds)-1 {
						want.code = impl.ErrClaim
					}
					for _, other := range otherExts(value) {
						a.changed(func(p *impl.Proof) { sum.of(p)[at][place] = other }).asks(t, want, "round", at, place)
					}
				}
			}
		}
	})
}

// Two values of a round that still sum to its claim: the next one does not, or the last claim does not hold.
func TestProofsWithRoundsThatSumToTheirClaims(t *testing.T) {
	eachCheat(t, rightSetting, func(a shownProof, _ bool) {
		for at := range a.p.Gates {
			want := refusal{"gates", impl.ErrSum}
			if at == len(a.p.Gates)-1 {
				want.code = impl.ErrClaim
			}
			a.changed(func(p *impl.Proof) { shiftTwo(p.Gates[at]) }).asks(t, want, "round", at)
		}
		for at := range a.p.Wires {
			want := refusal{"wires", impl.ErrSum}
			if at == len(a.p.Wires)-1 {
				want.code = impl.ErrClaim
			}
			a.changed(func(p *impl.Proof) { shiftTwo(p.Wires[at]) }).asks(t, want, "round", at)
		}
	})
}

func shiftTwo(round []impl.Ext) {
	round[0], round[1] = extAdd(round[0], impl.Ext{A: 8, B: 9}), extSub(round[1], impl.Ext{A: 8, B: 9})
}

// Of what is said of the products, and of the private half, nothing else is taken.
func TestProofsWithOtherValues(t *testing.T) {
	eachCheat(t, rightSetting, func(a shownProof, _ bool) {
		for i, part := range []func(p *impl.Proof) *impl.Ext{
			func(p *impl.Proof) *impl.Ext { return &p.VA },
			func(p *impl.Proof) *impl.Ext { return &p.VB },
			func(p *impl.Proof) *impl.Ext { return &p.VC },
			func(p *impl.Proof) *impl.Ext { return &p.VW },
		} {
			where := "gates"
			if i == 3 {
				where = "wires"
			}
			for _, other := range otherExts(*part(&a.p)) {
				a.changed(func(p *impl.Proof) { *part(p) = other }).asks(t, refusal{where, impl.ErrClaim}, "value", i, other)
			}
		}
		a.changed(func(p *impl.Proof) { p.VA, p.VB = p.VB, p.VA }).asks(t, refusal{"wires", impl.ErrSum}, "turned")
	})
}

// Where the gates' last claim does not hang on a value, the wires' first one does; where theirs does not hang on VW, the opening does.
func TestValuesThatOneClaimDoesNotHangOn(t *testing.T) {
	for _, source := range cheatSources() {
		for i, system := range oneMatrixAlone(2, 3)[:3] {
			system.source = source
			a := shownOf(t, system)
			wires, gates := refusal{"wires", impl.ErrSum}, refusal{"gates", impl.ErrClaim}
			va := a.changed(func(p *impl.Proof) { p.VA = extAdd(p.VA, extX) })
			vb := a.changed(func(p *impl.Proof) { p.VB = extAdd(p.VB, extX) })
			vc := a.changed(func(p *impl.Proof) { p.VC = extAdd(p.VC, extX) })
			vw := a.changed(func(p *impl.Proof) { p.VW = extAdd(p.VW, extX) })
			vc.asks(t, gates, "VC, system", i)
			switch i {
			case 0:
				va.asks(t, wires, "VA, no entries")
				vb.asks(t, wires, "VB, no entries")
				vw.asks(t, refusal{"opening", impl.ErrSum}, "VW, no entries")
			case 1:
				va.asks(t, wires, "VA, A alone")
				vb.asks(t, gates, "VB, A alone")
				vw.asks(t, refusal{"wires", impl.ErrClaim}, "VW, A alone")
			case 2:
				va.asks(t, gates, "VA, B alone")
				vb.asks(t, wires, "VB, B alone")
				vw.asks(t, refusal{"wires", impl.ErrClaim}, "VW, B alone")
			}
		}
	}
}

// drawing is a script for a system of so many rows and columns that draws just this for the last variable of the columns.
func drawing(rows, cols int, side impl.Ext) impl.Source {
	script := mixedExts(64)
	script[2*rows+3+cols-1] = side
	return impl.Source{State: hashed("cheats"), Script: script}
}

// The last variable parts the halves: at 0 VW is by 0, at 1 what is public is; a script's draws do not hang on what is taken in.
func TestLastVariablePartsTheHalves(t *testing.T) {
	eachSize(func(rows, cols int) {
		set := impl.Setting{Rate: 1, Queries: 2}
		other := func(p *impl.Proof) { p.VW = extAdd(p.VW, ext1) }
		for _, c := range []struct {
			side       impl.Ext
			vw, public refusal
		}{
			{ext0, refusal{"opening", impl.ErrSum}, refusal{"wires", impl.ErrClaim}},
			{ext1, refusal{"wires", impl.ErrClaim}, accepted},
			{extX, refusal{"wires", impl.ErrClaim}, refusal{"wires", impl.ErrClaim}},
			{impl.Ext{A: 2}, refusal{"wires", impl.ErrClaim}, refusal{"wires", impl.ErrClaim}},
		} {
			a := shownOf(t, fullAsked(rows, cols, set, drawing(rows, cols, c.side)))
			a.asks(t, accepted, "side", c.side)
			a.changed(other).asks(t, c.vw, "VW, side", c.side)
			for at := range a.publics {
				b := a
				b.publics = slices.Clone(a.publics)
				b.publics[at] = add(b.publics[at], 1)
				b.asks(t, c.public, "public number", at, "side", c.side)
			}
		}
	})
}

// A sponge draws otherwise behind another root. A script does not, but its leaves lead to another root.
func TestProofsWithAnotherRoot(t *testing.T) {
	eachCheat(t, impl.Setting{Rate: 2, Queries: 3}, func(a shownProof, sponge bool) {
		want := refusal{"opening", impl.ErrPath}
		if sponge && a.s.Rows > 1 {
			want = refusal{"gates", impl.ErrSum}
		} else if sponge {
			want = refusal{"gates", impl.ErrClaim}
		}
		for _, other := range []string{turned(a.p.Root, 0), turned(a.p.Root, 255), hashed("x")} {
			a.changed(func(p *impl.Proof) { p.Root = other }).asks(t, want, "another root")
		}
	})
}

// A root of another table that nothing else was changed for.
func TestProofsWithAnotherTablesRoot(t *testing.T) {
	for _, set := range someSettings() {
		for _, source := range cheatSources() {
			a := shownOf(t, fullAsked(2, 4, set, source))
			other := committed(t, elements(numbersOf(8, 3)...), set.Rate)
			if got := a.changed(func(p *impl.Proof) { p.Root = other }).asksLikeTheCalls(t, "another table's root"); got == accepted {
				t.Error(set, "is accepted")
			}
		}
	}
}

func TestProofsWithAnotherOpening(t *testing.T) {
	eachCheat(t, impl.Setting{Rate: 3, Queries: 4, Grind: 3}, func(a shownProof, sponge bool) {
		vars := len(a.p.Open.Rounds)
		for at := range a.p.Open.Roots {
			want := refusal{"opening", impl.ErrSum}
			if at == vars-2 {
				want.code = impl.ErrClaim
			}
			b := a.changed(func(p *impl.Proof) { p.Open.Roots[at] = hashed("x") })
			if sponge {
				b.asks(t, want, "root", at)
			} else if got := b.asksLikeTheCalls(t, "root", at); got.code != impl.ErrGrind && got.code != impl.ErrPath {
				t.Error("root", at, got)
			}
		}
		for _, other := range otherExts(a.p.Open.Last) {
			a.changed(func(p *impl.Proof) { p.Open.Last = other }).asks(t, refusal{"opening", impl.ErrClaim}, "last", other)
		}
		a.changed(func(p *impl.Proof) { p.Open.Nonce = noNonce(nonceState(t, a), 3) }).asks(t, refusal{"opening", impl.ErrGrind}, "nonce")
		for i, q := range a.p.Open.Queries {
			for place := range q.Pairs {
				other := extAdd(q.Pairs[place], extX)
				a.changed(func(p *impl.Proof) { p.Open.Queries[i].Pairs[place] = other }).asks(t, refusal{"opening", impl.ErrPath}, "query", i, "element", place)
			}
			for word, path := range q.Paths {
				for up := range path {
					a.changed(func(p *impl.Proof) { p.Open.Queries[i].Paths[word][up] = turned(path[up], 9) }).asks(t, refusal{"opening", impl.ErrPath}, "query", i, "path", word, up)
				}
			}
		}
	})
}

// openedBy is how a proof that is right so far comes to its opening.
func openedBy(t *testing.T, a shownProof) openAsked {
	t.Helper()
	s, _ := someDraws(t, taken(t, a.source, a.plainText(), a.p.Root), a.s.Rows)
	for _, round := range a.p.Gates {
		s, _ = someDraws(t, takenExts(t, s, round...), 1)
	}
	s, _ = someDraws(t, takenExts(t, s, a.p.VA, a.p.VB, a.p.VC), 3)
	var point []impl.Ext
	for _, round := range a.p.Wires {
		after, r := someDraws(t, takenExts(t, s, round...), 1)
		s, point = after, append(point, r...)
	}
	vars := a.s.Cols - 1
	return openAsked{a.p.Root, vars, point[:vars], a.p.VW, a.set, a.p.Open, takenExts(t, s, a.p.VW)}
}

func nonceState(t *testing.T, a shownProof) impl.Source {
	t.Helper()
	return grindState(t, openedBy(t, a))
}

// Of no bits any nonce does; a script draws the same places behind each, a sponge others.
func TestProofsWithAnotherNonceOfNoBits(t *testing.T) {
	set := impl.Setting{Rate: 3, Queries: 8}
	for i, source := range cheatSources() {
		a := shownOf(t, fullAsked(3, 5, set, source))
		for _, nonce := range []int{1, 256, 65535} {
			want := refusal{"opening", impl.ErrPath}
			if i == 1 {
				want = accepted
			}
			a.changed(func(p *impl.Proof) { p.Open.Nonce = nonce }).asks(t, want, "nonce", nonce)
		}
	}
}

// A nonce that does is taken, though it is not the least one.
func TestProofsWithANonceThatIsNotTheLeast(t *testing.T) {
	set := impl.Setting{Rate: 1, Queries: 3, Grind: 2}
	source := cheatSources()[1]
	a := shownOf(t, fullAsked(2, 3, set, source))
	state, taken := nonceState(t, a).State, 0
	for nonce := range 64 {
		want := refusal{"opening", impl.ErrGrind}
		if plainNonceDoes(state, 2, nonce) {
			want, taken = accepted, taken+1
		}
		a.changed(func(p *impl.Proof) { p.Open.Nonce = nonce }).asks(t, want, "nonce", nonce)
	}
	if taken < 2 {
		t.Error("nonces that do:", taken)
	}
}

// Words that are none of a private half that satisfies: all is right but some way down.
func TestProofsWithWordsThatAreNone(t *testing.T) {
	set, codes := impl.Setting{Rate: 1, Queries: 2}, map[int]int{}
	for _, size := range [][2]int{{1, 3}, {2, 4}} {
		for i := range 24 {
			source := impl.Source{State: hashed("cheats", fmt.Sprint(i))}
			if i%2 == 1 {
				source.Script = mixedExts(20 + i)
			}
			a := fullAsked(size[0], size[1], set, source)
			told := toldAheadOfOpening(t, a)
			w := shown(t, told.private, told.point, set, told.source, cheat{1 + i%(size[1]-2), i % 4, i%3 == 0})
			told.p.Open = w.o
			want := impl.OK
			for _, place := range w.places {
				if want == impl.OK {
					want = whichCode(w, place)
				}
			}
			codes[want]++
			if want == impl.OK {
				shownProof{a, told.p}.asks(t, accepted, i)
			} else {
				shownProof{a, told.p}.asks(t, refusal{"opening", want}, i)
			}
		}
	}
	if codes[impl.OK] == 0 || codes[impl.ErrFold] == 0 || codes[impl.ErrLast] == 0 {
		t.Error("codes", codes)
	}
}

// What is changed one thing at a time, in sizes and by sources of all sorts, also such as draw noughts and ones, behind which a change is not always seen.
func TestProofsChangedInAnyPart(t *testing.T) {
	where := map[refusal]int{}
	for i, a := range append(someAsked(2, 3), slices.Concat(oneMatrixAlone(1, 2), oneMatrixAlone(3, 4), someAsked(1, 2))...) {
		a.set.Grind = i % 3
		right := shownOf(t, a)
		right.asks(t, accepted)
		for j, does := range anyChanges(right.p) {
			where[right.changed(does).asksLikeTheCalls(t, "case", i, "change", j)]++
		}
	}
	for _, want := range []refusal{
		accepted, {"gates", impl.ErrSum}, {"gates", impl.ErrClaim}, {"wires", impl.ErrSum}, {"wires", impl.ErrClaim},
		{"opening", impl.ErrSum}, {"opening", impl.ErrClaim}, {"opening", impl.ErrGrind}, {"opening", impl.ErrPath},
	} {
		if where[want] == 0 {
			t.Error("no change comes to", want)
		}
	}
}

func anyChanges(right impl.Proof) []func(p *impl.Proof) {
	list := []func(p *impl.Proof){
		func(p *impl.Proof) { p.Root = turned(p.Root, 77) },
		func(p *impl.Proof) { p.VA = extAdd(p.VA, ext1) },
		func(p *impl.Proof) { p.VB = extAdd(p.VB, extX) },
		func(p *impl.Proof) { p.VC = extSub(p.VC, ext1) },
		func(p *impl.Proof) { p.VW = extSub(p.VW, extX) },
		func(p *impl.Proof) { p.Open.Last = extAdd(p.Open.Last, ext1) },
		func(p *impl.Proof) { p.Open.Nonce ^= 1 },
		func(p *impl.Proof) { slices.Reverse(p.Open.Queries) },
		func(p *impl.Proof) { slices.Reverse(p.Gates) },
		func(p *impl.Proof) { slices.Reverse(p.Wires) },
		func(p *impl.Proof) { p.Open.Queries[0].Pairs[0] = extAdd(p.Open.Queries[0].Pairs[0], ext1) },
		func(p *impl.Proof) { p.Open.Queries[0].Paths[0][0] = hashed("x") },
	}
	for at := range right.Gates {
		for place := range 4 {
			list = append(list, func(p *impl.Proof) { p.Gates[at][place] = extAdd(p.Gates[at][place], ext1) })
		}
		list = append(list, func(p *impl.Proof) { shiftTwo(p.Gates[at]) })
	}
	for at := range right.Wires {
		for place := range 3 {
			list = append(list, func(p *impl.Proof) { p.Wires[at][place] = extAdd(p.Wires[at][place], extX) })
		}
		list = append(list, func(p *impl.Proof) { shiftTwo(p.Wires[at]) })
	}
	for at := range right.Open.Rounds {
		list = append(list, func(p *impl.Proof) { shiftTwo(p.Open.Rounds[at]) })
	}
	for at := range right.Open.Roots {
		list = append(list, func(p *impl.Proof) { p.Open.Roots[at] = hashed("x") })
	}
	return list
}

// Other than what was proved: public numbers, settings, systems and sources of a verifier's own.
func TestProofsOfOtherThings(t *testing.T) {
	set := impl.Setting{Rate: 1, Queries: 3, Grind: 4}
	for i, source := range cheatSources() {
		a := shownOf(t, fullAsked(2, 3, set, source))
		sponge := refusal{"gates", impl.ErrSum}
		for j, c := range []struct {
			does   func(b *shownProof)
			sponge refusal
			script refusal
		}{
			{func(b *shownProof) { b.publics = append([]int{add(b.publics[0], 1)}, b.publics[1:]...) }, sponge, refusal{"wires", impl.ErrClaim}},
			{func(b *shownProof) { b.publics = make([]int, 3) }, sponge, refusal{"wires", impl.ErrClaim}},
			{func(b *shownProof) { b.set.Grind = 0 }, sponge, accepted},
			{func(b *shownProof) { b.set.Grind = 12 }, sponge, refusal{"opening", impl.ErrGrind}},
			{func(b *shownProof) { b.s = failing(b.s, 1) }, sponge, refusal{"wires", impl.ErrClaim}},
			{func(b *shownProof) { b.s.A = b.s.B }, sponge, refusal{"wires", impl.ErrClaim}},
			{func(b *shownProof) { b.s.A, b.s.B, b.s.C = nil, nil, nil }, sponge, refusal{"wires", impl.ErrClaim}},
			{func(b *shownProof) { b.source.State = hashed("others") }, sponge, refusal{"opening", impl.ErrGrind}},
			{func(b *shownProof) { b.source.Count = 5 }, accepted, accepted},
			{func(b *shownProof) { b.source.At = 1 }, accepted, sponge},
			{func(b *shownProof) { b.source.Script = mixedExts(12) }, sponge, sponge},
			{func(b *shownProof) { b.source.Script = nil }, accepted, sponge},
		} {
			b := a
			c.does(&b)
			want := c.sponge
			if i == 1 {
				want = c.script
			}
			b.asks(t, want, "case", j, "source", i)
		}
	}
}

// Another Rate, other Queries, other Rows or Cols: the proof is of other lengths. Other Publics: there are not as many.
func TestProofsOfOtherLengths(t *testing.T) {
	for _, source := range cheatSources() {
		a := shownOf(t, fullAsked(2, 3, rightSetting, source))
		for j, c := range []struct {
			code int
			does func(b *shownProof)
		}{
			{impl.ErrLength, func(b *shownProof) { b.set.Rate = 1 }},
			{impl.ErrLength, func(b *shownProof) { b.set.Rate = 3 }},
			{impl.ErrLength, func(b *shownProof) { b.set.Queries = 2 }},
			{impl.ErrLength, func(b *shownProof) { b.set.Queries = 4 }},
			{impl.ErrLength, func(b *shownProof) { b.s.Rows = 3 }},
			{impl.ErrLength, func(b *shownProof) { b.s.Cols = 4 }},
			{impl.ErrLength, func(b *shownProof) { b.s = impl.System{Rows: 1, Cols: 3, Publics: 3} }},
			{impl.ErrLength, func(b *shownProof) { b.s = impl.System{Rows: 2, Cols: 4, Publics: 3} }},
			{impl.ErrPublic, func(b *shownProof) { b.s.Publics = 2 }},
			{impl.ErrPublic, func(b *shownProof) { b.s.Publics = 0 }},
			{impl.ErrPublic, func(b *shownProof) { b.publics = b.publics[:2] }},
			{impl.ErrPublic, func(b *shownProof) { b.publics = nil }},
		} {
			b := a
			c.does(&b)
			b.asksCode(t, c.code, "case", j)
		}
	}
}

// The public numbers of a circuit are those that it was proved with.
func TestCircuitsOfOtherPublicNumbers(t *testing.T) {
	c := circuitOf(input, public, mulGate(0, 0), likeGate(2, 1))
	other := circuitOf(input, public, sumGate(0, 0), likeGate(2, 1))
	set := impl.Setting{Rate: 2, Queries: 2}
	for i, source := range cheatSources() {
		p, code := impl.ProveCircuit(c, set, []int{49}, []int{7}, source)
		if code != impl.OK {
			t.Fatal("ProveCircuit", code)
		}
		want := []int{impl.ErrSum, impl.ErrClaim}[i]
		for _, n := range []int{0, 1, 48, 50, prime - 49, prime - 1} {
			if ok, code := impl.VerifyCircuit(c, set, []int{n}, p, source); ok || code != want {
				t.Error("VerifyCircuit of", n, ok, code, "is to have", want)
			}
		}
		if ok, code := impl.VerifyCircuit(other, set, []int{49}, p, source); ok || code != want {
			t.Error("VerifyCircuit of another circuit", ok, code, "is to have", want)
		}
		if ok, code := impl.VerifyCircuit(c, set, []int{49}, p, source); !ok || code != impl.OK {
			t.Error("VerifyCircuit", ok, code)
		}
	}
}
