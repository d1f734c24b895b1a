package tests

import (
	"fmt"
	"math"
	"math/big"
	"slices"
	"strings"
	"testing"

	"loop.example/g00348/impl"
)

// Promise 6. That a nonce may be the last one, or none, is tested in grind_test.go.

const (
	allDraws  = 1000000
	longLabel = 100
)

// fourBytes and plainTaken are chapter 6's words, with the hash as chapter 4 tells it: of messages of any length.
func fourBytes(n int) string {
	return string([]byte{byte(n / (256 * 256 * 256)), byte(n / (256 * 256)), byte(n / 256), byte(n)})
}

func plainTaken(t *testing.T, s impl.Source, text string) impl.Source {
	t.Helper()
	s.State = spongeOf(t, []byte(s.State+"absorb"+fourBytes(len(text))+text), 1)
	s.Count = 0
	return s
}

func plainDraw(s impl.Source) (impl.Source, impl.Ext) {
	if len(s.Script) > 0 {
		a := s.Script[s.At%len(s.Script)]
		s.At++
		return s, a
	}
	h := hashed(s.State, "draw", fourBytes(s.Count))
	s.Count++
	return s, impl.Ext{A: bigMod(new(big.Int).SetBytes([]byte(h[:8]))), B: bigMod(new(big.Int).SetBytes([]byte(h[8:16])))}
}

func plainDraws(s impl.Source, n int) (impl.Source, []impl.Ext) {
	list := make([]impl.Ext, n)
	for i := range list {
		s, list[i] = plainDraw(s)
	}
	return s, list
}

func sameSource(a, b impl.Source) bool {
	return slices.Equal(a.Script, b.Script) && a.At == b.At && a.State == b.State && a.Count == b.Count
}

func isNoSource(s impl.Source) bool { return sameSource(s, impl.Source{}) }

func spongeNamed(t *testing.T, label string) impl.Source {
	t.Helper()
	s, code := impl.NewSponge(label)
	if code != impl.OK {
		t.Fatal("NewSponge", len(label), code)
	}
	return s
}

func taken(t *testing.T, s impl.Source, texts ...string) impl.Source {
	t.Helper()
	for _, text := range texts {
		after, code := impl.AbsorbText(s, text)
		if code != impl.OK {
			t.Fatal("AbsorbText of", len(text), code)
		}
		s = after
	}
	return s
}

func someDraws(t *testing.T, s impl.Source, n int) (impl.Source, []impl.Ext) {
	t.Helper()
	after, list, code := impl.TakeSome(s, n)
	if code != impl.OK || len(list) != n {
		t.Fatal("TakeSome of", n, len(list), code)
	}
	return after, list
}

// rightSources are of both sorts, new ones and ones that have drawn; some have numbers that their sort never raises.
func rightSources() []impl.Source {
	state := string(mixedBytes(32))
	var list []impl.Source
	for _, script := range [][]impl.Ext{nil, {}, {{A: 5, B: 6}}, mixedExts(3), mixedExts(63), mixedExts(64), someExts(0)} {
		for _, at := range []int{0, 1, 64, 300, 65536, allDraws - 100} {
			for _, count := range []int{0, 1, 255, 256, 65535, 65536, allDraws - 100} {
				list = append(list, impl.Source{Script: script, At: at, State: state, Count: count})
			}
		}
	}
	for _, state := range []string{strings.Repeat("\x00", 32), strings.Repeat("\xff", 32), hashed("a")} {
		list = append(list, impl.Source{State: state}, impl.Source{State: state, Script: mixedExts(2)})
	}
	return list
}

// wrongSources have one fault each, and one has all of them.
func wrongSources() []impl.Source {
	right := impl.Source{State: hashed("right")}
	scripted := impl.Source{State: hashed("right"), Script: mixedExts(3)}
	list := []impl.Source{{}, {Script: wrongExts(), At: -1, State: "a", Count: -1}}
	for _, s := range []impl.Source{right, scripted} {
		for _, n := range []int{0, 1, 31, 33, 64, 200, impl.MaxText, tooLong} {
			list = append(list, withState(s, strings.Repeat("h", n)))
		}
		for _, n := range []int{-1, -2, -allDraws, allDraws + 1, 2 * allDraws, 1 << 32, 1<<32 + 1, math.MinInt, math.MaxInt} {
			list = append(list, withNumbers(s, n, 0), withNumbers(s, 0, n), withNumbers(s, n, n))
		}
	}
	for _, bad := range wrongExts() {
		list = append(list, withScript(right, []impl.Ext{bad}))
	}
	for _, n := range []int{2, 3, 64} {
		for at := range n {
			list = append(list, withScript(right, extsWith(n, at, impl.Ext{A: 1, B: prime})))
		}
	}
	for _, n := range []int{65, 66, 128, impl.MaxList, impl.MaxList + 1} {
		list = append(list, withScript(right, mixedExts(n)))
	}
	return list
}

func withState(s impl.Source, state string) impl.Source {
	s.State = state
	return s
}

func withNumbers(s impl.Source, at, count int) impl.Source {
	s.At, s.Count = at, count
	return s
}

func withScript(s impl.Source, script []impl.Ext) impl.Source {
	s.Script = script
	return s
}

func TestSourceSizes(t *testing.T) {
	if impl.MaxGrind != 12 || impl.MaxNonces != 65536 {
		t.Error(impl.MaxGrind, impl.MaxNonces)
	}
}

func TestSourceOK(t *testing.T) {
	for i, s := range rightSources() {
		if !impl.SourceOK(s) {
			t.Error("right source", i)
		}
		if !impl.SourceOK(withNumbers(s, allDraws, 0)) || !impl.SourceOK(withNumbers(s, 0, allDraws)) || !impl.SourceOK(withNumbers(s, allDraws, allDraws)) {
			t.Error("right source", i, "with no draws left")
		}
	}
	for i, s := range wrongSources() {
		if impl.SourceOK(s) {
			t.Error("wrong source", i)
		}
	}
}

func TestNewSponge(t *testing.T) {
	seen := map[string]int{}
	for n := range longLabel + 1 {
		for _, label := range []string{string(mixedBytes(n)), strings.Repeat("\x00", n), strings.Repeat("source", 17)[:n]} {
			s, code := impl.NewSponge(label)
			want := impl.Source{State: spongeOf(t, []byte("source"+label), 1)}
			if !sameSource(s, want) || code != impl.OK || !impl.SourceOK(s) {
				t.Error("a label of", n, s, code)
			}
			seen[s.State]++
		}
	}
	if len(seen) != 3*longLabel+1 {
		t.Error(len(seen), "states of labels that differ")
	}
}

func TestNewSpongeFaults(t *testing.T) {
	for n, want := range map[int]int{101: impl.ErrRange, 102: impl.ErrRange, 256: impl.ErrRange, impl.MaxText: impl.ErrRange, tooLong: impl.ErrLong, 2 * impl.MaxText: impl.ErrLong} {
		if s, code := impl.NewSponge(strings.Repeat("a", n)); !isNoSource(s) || code != want {
			t.Error("a label of", n, s, code)
		}
	}
}

func TestNewScript(t *testing.T) {
	for _, n := range []int{0, 1, 99, 100} {
		label := string(mixedBytes(n))
		for _, list := range [][]impl.Ext{{ext0}, {ext1}, {extX, ext0}, {{A: prime - 1, B: prime - 1}}, mixedExts(2), mixedExts(63), mixedExts(64), someExts(0), someExts(15)} {
			s, code := impl.NewScript(label, list)
			want := impl.Source{Script: list, State: spongeNamed(t, label).State}
			if !sameSource(s, want) || code != impl.OK || !impl.SourceOK(s) {
				t.Error("a label of", n, "list of", len(list), s, code)
			}
		}
	}
}

func TestNewScriptFaults(t *testing.T) {
	bad := impl.Ext{B: prime}
	const long = impl.MaxList + 1
	for i, c := range []struct {
		label int
		list  []impl.Ext
		want  int
	}{
		{0, nil, impl.ErrRange}, {100, []impl.Ext{}, impl.ErrRange}, {5, mixedExts(65), impl.ErrRange}, {5, mixedExts(66), impl.ErrRange}, {5, mixedExts(impl.MaxList), impl.ErrRange},
		{101, mixedExts(1), impl.ErrRange}, {101, mixedExts(64), impl.ErrRange}, {impl.MaxText, mixedExts(2), impl.ErrRange}, {101, nil, impl.ErrRange}, {101, mixedExts(65), impl.ErrRange},
		{0, []impl.Ext{bad}, impl.ErrBad}, {101, []impl.Ext{bad}, impl.ErrBad}, {impl.MaxText, []impl.Ext{bad}, impl.ErrBad}, {100, wrongExts()[:60], impl.ErrBad},
		{5, extsWith(65, 0, bad), impl.ErrBad}, {5, extsWith(65, 64, bad), impl.ErrBad}, {5, extsWith(impl.MaxList, impl.MaxList-1, bad), impl.ErrBad},
		{tooLong, mixedExts(3), impl.ErrLong}, {tooLong, nil, impl.ErrLong}, {tooLong, []impl.Ext{bad}, impl.ErrLong}, {tooLong, mixedExts(long), impl.ErrLong},
		{5, mixedExts(long), impl.ErrLong}, {101, mixedExts(long), impl.ErrLong}, {5, extsWith(long, 0, bad), impl.ErrLong}, {5, extsWith(long, long-1, bad), impl.ErrLong},
	} {
		if s, code := impl.NewScript(strings.Repeat("a", c.label), c.list); !isNoSource(s) || code != c.want {
			t.Error("case", i, "label of", c.label, "list of", len(c.list), code)
		}
	}
	for _, n := range []int{1, 2, 64} {
		for at := range n {
			for _, wrong := range wrongExts() {
				if s, code := impl.NewScript("a", extsWith(n, at, wrong)); !isNoSource(s) || code != impl.ErrBad {
					t.Fatal(wrong, "at", at, "of", n, code)
				}
			}
		}
	}
}

func TestAbsorbText(t *testing.T) {
	const ahead = 32 + 6 + 4
	for _, n := range []int{0, 1, 2, 31, 32, 93, 94, 95, 135, 136, 255, 256, 257, 65535 - ahead, 65536 - ahead, 65537 - ahead, impl.MaxText - 1, impl.MaxText} {
		text := string(mixedBytes(n))
		for _, s := range []impl.Source{
			spongeNamed(t, ""), withNumbers(spongeNamed(t, "a"), 0, 77), withNumbers(spongeNamed(t, "a"), 55, allDraws),
			withScript(spongeNamed(t, ""), mixedExts(3)), withNumbers(withScript(spongeNamed(t, "b"), mixedExts(64)), 66, 7), withNumbers(withScript(spongeNamed(t, "b"), mixedExts(1)), allDraws, allDraws),
		} {
			after, code := impl.AbsorbText(s, text)
			if !sameSource(after, plainTaken(t, s, text)) || code != impl.OK || !impl.SourceOK(after) || after.Count != 0 || after.At != s.At {
				t.Error("a text of", n, "taken into", s.At, s.Count, len(s.Script), "elements:", after.At, after.Count, len(after.State), code)
			}
		}
	}
}

func TestAbsorbExts(t *testing.T) {
	for _, n := range []int{0, 1, 2, 3, 100, 511, impl.MaxList - 1, impl.MaxList} {
		list := mixedExts(n)
		for i, s := range rightSources() {
			if n > 3 && i%50 != 0 {
				continue
			}
			after, code := impl.AbsorbExts(s, list)
			if !sameSource(after, plainTaken(t, s, string(bytesOf(list)))) || code != impl.OK || !impl.SourceOK(after) {
				t.Error(n, "elements taken into source", i, code)
			}
			if byText := taken(t, s, string(bytesOf(list))); !sameSource(after, byText) {
				t.Error(n, "elements taken into source", i, "are not their bytes")
			}
		}
	}
}

func TestAbsorbFaults(t *testing.T) {
	right := spongeNamed(t, "right")
	long := strings.Repeat("a", tooLong)
	refused := func(name string, want int, s impl.Source, code int) {
		t.Helper()
		if !isNoSource(s) || code != want {
			t.Error(name, code, "is to be", want)
		}
	}
	absorbText := func(want int, s impl.Source, text string) {
		t.Helper()
		after, code := impl.AbsorbText(s, text)
		refused(fmt.Sprint("AbsorbText of ", len(text)), want, after, code)
	}
	absorbExts := func(want int, s impl.Source, list []impl.Ext) {
		t.Helper()
		after, code := impl.AbsorbExts(s, list)
		refused(fmt.Sprint("AbsorbExts of ", len(list)), want, after, code)
	}
	for _, s := range append(wrongSources(), right) {
		absorbText(impl.ErrLong, s, long)
		absorbExts(impl.ErrLong, s, mixedExts(impl.MaxList+1))
		absorbExts(impl.ErrLong, s, extsWith(impl.MaxList+1, 3, impl.Ext{A: -1}))
		absorbExts(impl.ErrBad, s, []impl.Ext{{A: prime}})
	}
	for _, s := range wrongSources() {
		absorbText(impl.ErrBad, s, "")
		absorbText(impl.ErrBad, s, "text")
		absorbExts(impl.ErrBad, s, nil)
		absorbExts(impl.ErrBad, s, mixedExts(2))
	}
	for _, wrong := range wrongExts() {
		for at := range 3 {
			absorbExts(impl.ErrBad, right, extsWith(3, at, wrong))
		}
	}
	absorbExts(impl.ErrBad, right, extsWith(impl.MaxList, impl.MaxList-1, impl.Ext{A: -1}))
	absorbText(impl.ErrLong, right, long+long)
}

func TestDraws(t *testing.T) {
	for i, s := range rightSources() {
		wantAfter, want := plainDraw(s)
		after, a, code := impl.TakeOne(s)
		if !sameSource(after, wantAfter) || a != want || code != impl.OK {
			t.Error("source", i, "draws", a, "is to draw", want, code)
		}
		for _, n := range []int{0, 1, 2, 3, 65, 99, 100} {
			if n > 3 && i%5 != 0 {
				continue
			}
			wantAfter, want := plainDraws(s, n)
			after, list := someDraws(t, s, n)
			if !sameSource(after, wantAfter) || !slices.Equal(list, want) || !impl.SourceOK(after) {
				t.Error("source", i, "in", n, "draws")
			}
		}
	}
}

// TestDrawsOfLongNumbers looks for hashes whose first or second eight bytes are a number with the highest bit, and without.
func TestDrawsOfLongNumbers(t *testing.T) {
	seen := map[[2]bool]int{}
	for count := range 100 {
		s := withNumbers(spongeNamed(t, "long numbers"), 0, count)
		h := hashed(s.State, "draw", fourBytes(count))
		seen[[2]bool{h[0] >= 128, h[8] >= 128}]++
		_, want := plainDraw(s)
		if _, a, code := impl.TakeOne(s); a != want || code != impl.OK || !impl.ExtOK(a) {
			t.Error("draw", count, a, "is to be", want, code)
		}
	}
	if len(seen) != 4 {
		t.Error("too few are asked for:", seen)
	}
}

func TestScriptIsGoneThroughAgain(t *testing.T) {
	for _, n := range []int{1, 2, 3, 7, 64} {
		list := mixedExts(n)
		s, code := impl.NewScript("again", list)
		if code != impl.OK {
			t.Fatal(n, code)
		}
		for at := range 3*n + 2 {
			if at%2 == 1 {
				s = taken(t, s, fmt.Sprint("text ", at))
			}
			after, a, code := impl.TakeOne(s)
			if a != list[at%n] || after.At != at+1 || after.Count != 0 || after.State != s.State || code != impl.OK {
				t.Error("draw", at, "of a script of", n, "is", a, code)
			}
			s = after
		}
		late, a, code := impl.TakeOne(withNumbers(s, allDraws-1, 5))
		if a != list[(allDraws-1)%n] || late.At != allDraws || late.Count != 5 || code != impl.OK {
			t.Error("the last draw of a script of", n, "is", a, late.At, code)
		}
	}
}

func TestTakePlaces(t *testing.T) {
	for i, s := range rightSources() {
		for _, n := range []int{0, 1, 5, 100} {
			if n > 1 && i%9 != 0 {
				continue
			}
			wantAfter, list := plainDraws(s, n)
			for _, most := range []int{1, 2, 3, 7, 64, 255, 256, 257, 65535, 65536} {
				after, places, code := impl.TakePlaces(s, n, most)
				if !sameSource(after, wantAfter) || len(places) != n || code != impl.OK {
					t.Fatal("source", i, n, most, len(places), code)
				}
				for j, place := range places {
					if place != list[j].A%most {
						t.Error("source", i, "place", j, "of", n, "below", most, "is", place)
					}
				}
			}
		}
	}
}

// asksTaken holds each of the three calls' answers against a source, a code, and nothing drawn.
func asksTaken(t *testing.T, s impl.Source, n, most int, want impl.Source, code int) {
	t.Helper()
	after, list, got := impl.TakeSome(s, n)
	if most == 1 && (!sameSource(after, want) || len(list) != 0 || got != code) {
		t.Error("TakeSome", n, "of", s.At, s.Count, len(s.Script), "answers", after.At, after.Count, len(list), got, "is to be", code)
	}
	after, places, got := impl.TakePlaces(s, n, most)
	if !sameSource(after, want) || len(places) != 0 || got != code {
		t.Error("TakePlaces", n, most, "of", s.At, s.Count, len(s.Script), "answers", after.At, after.Count, len(places), got, "is to be", code)
	}
	if n != 1 || most != 1 {
		return
	}
	after, a, got := impl.TakeOne(s)
	if !sameSource(after, want) || a != ext0 || got != code {
		t.Error("TakeOne of", s.At, s.Count, len(s.Script), "answers", after.At, after.Count, a, got, "is to be", code)
	}
}

var (
	wrongTakes  = []int{-1, -2, -100, 101, 102, 4096, 65536, 1 << 32, 1<<32 + 1, math.MinInt, math.MaxInt}
	wrongPlaces = []int{0, -1, -2, -65536, 65537, 65538, 131072, 1 << 32, 1<<32 + 1, math.MinInt, math.MaxInt}
)

func TestTakeFaults(t *testing.T) {
	none := impl.Source{}
	for _, s := range wrongSources() {
		for _, n := range []int{0, 1, 100, 101, -1} {
			for _, most := range []int{1, 65536, 0, 65537} {
				asksTaken(t, s, n, most, none, impl.ErrBad)
			}
		}
	}
	right := spongeNamed(t, "right")
	for _, s := range []impl.Source{right, withScript(right, mixedExts(2)), withNumbers(right, 0, allDraws), withNumbers(right, allDraws, 0), withNumbers(withScript(right, mixedExts(2)), allDraws, 0)} {
		for _, n := range wrongTakes {
			for _, most := range append([]int{1, 65536}, wrongPlaces...) {
				asksTaken(t, s, n, most, none, impl.ErrRange)
			}
		}
		for _, most := range wrongPlaces {
			for _, n := range []int{0, 1, 100} {
				asksTaken(t, s, n, most, none, impl.ErrRange)
			}
		}
	}
}

func TestMoreDrawsThanAreLeft(t *testing.T) {
	state := hashed("left")
	for _, script := range [][]impl.Ext{nil, mixedExts(1), mixedExts(64)} {
		for _, left := range []int{0, 1, 2, 50, 98, 99, 100, 101} {
			used := allDraws - left
			for _, s := range []impl.Source{
				{At: used}, {Count: used}, {At: used, Count: used}, {At: used, Count: used - 1}, {At: used - 1, Count: used}, {At: 7, Count: used}, {At: used, Count: 7},
			} {
				s.Script, s.State = script, state
				for _, n := range []int{0, 1, 2, 3, 49, 50, 51, 98, 99, 100} {
					if n > left {
						asksTaken(t, s, n, 1, s, impl.ErrMany)
						asksTaken(t, s, n, 65536, s, impl.ErrMany)
						continue
					}
					wantAfter, want := plainDraws(s, n)
					if after, list := someDraws(t, s, n); !sameSource(after, wantAfter) || !slices.Equal(list, want) || !impl.SourceOK(after) {
						t.Error(n, "draws of", left, "left of", s.At, s.Count, len(script))
					}
				}
			}
		}
	}
}

// runsOfTexts differ by bytes, by their order, by where they are parted, or by empty ones.
func runsOfTexts() [][]string {
	runs := [][]string{
		nil, {""}, {"", ""}, {"abc"}, {"ab", "c"}, {"a", "bc"}, {"a", "b", "c"}, {"c", "b", "a"}, {"abc", ""}, {"", "abc"}, {"abc\x00"}, {"\x00abc"}, {"absorb"},
		{"\x00\x00\x00\x03abc"}, {strings.Repeat("x", impl.MaxText)}, {strings.Repeat("x", impl.MaxText-1)}, {strings.Repeat("x", impl.MaxText), ""}, {strings.Repeat("x", impl.MaxText-1) + "y"}, {"y" + strings.Repeat("x", impl.MaxText-1)},
	}
	for bit := range 24 {
		runs = append(runs, []string{turned("abc", bit)})
	}
	return runs
}

func TestDrawsHangOnAllThatWasTakenIn(t *testing.T) {
	states, elements, nonces := map[string]int{}, map[impl.Ext]int{}, map[int]int{}
	runs := runsOfTexts()
	for _, label := range []string{"", "a"} {
		for _, texts := range runs {
			s := taken(t, spongeNamed(t, label), texts...)
			_, list := someDraws(t, s, 3)
			states[s.State]++
			for _, a := range list {
				elements[a]++
			}
			nonce, code := impl.GrindNonce(s, 8)
			if code != impl.OK {
				t.Error("GrindNonce", code)
			}
			nonces[nonce]++
		}
	}
	if all := 2 * len(runs); len(states) != all || len(elements) != 3*all || len(nonces) < all/2 {
		t.Error(all, "sources have", len(states), "states,", len(elements), "elements,", len(nonces), "nonces")
	}
}

func TestDrawsAheadOfATextDoNotMatterBehindIt(t *testing.T) {
	s := taken(t, spongeNamed(t, "a"), "one")
	want := taken(t, s, "two")
	for _, n := range []int{0, 1, 2, 100} {
		drawn, _ := someDraws(t, s, n)
		if got := taken(t, drawn, "two"); drawn.Count != n || !sameSource(got, want) {
			t.Error(n, "draws ahead", drawn.Count, got.Count)
		}
	}
}

func TestScriptTakesIn(t *testing.T) {
	list := mixedExts(5)
	first, code := impl.NewScript("a", list)
	if code != impl.OK {
		t.Fatal(code)
	}
	beside := spongeNamed(t, "a")
	for _, texts := range runsOfTexts() {
		s, sponge := taken(t, first, texts...), taken(t, beside, texts...)
		after, drawn := someDraws(t, s, 7)
		if s.State != sponge.State || s.At != 0 || s.Count != 0 || !slices.Equal(drawn, append(slices.Clone(list), list[:2]...)) || after.At != 7 {
			t.Error("a script that took in", len(texts), "texts draws", drawn, after.At)
		}
		again := taken(t, withNumbers(after, after.At, 9), "more")
		if again.At != 7 || again.Count != 0 || again.State != taken(t, sponge, "more").State {
			t.Error("behind draws", again.At, again.Count)
		}
		scripted, codeScripted := impl.GrindNonce(s, 6)
		plain, codePlain := impl.GrindNonce(sponge, 6)
		if scripted != plain || codeScripted != impl.OK || codePlain != impl.OK {
			t.Error("nonces", scripted, plain, codeScripted, codePlain)
		}
	}
}
