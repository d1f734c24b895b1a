package tests

import (
	"fmt"
	"math"
	"slices"
	"strings"
	"testing"

	"loop.example/g00348/impl"
)

// Promise 10, of wrong settings, tables, points, sources, openings and bytes, and of two things that are wrong at once.

var (
	noRates      = []int{0, 4, -1, -3, 5, 9, 64, 1 << 32, 1<<32 + 1, math.MaxInt, math.MinInt}
	noQueries    = []int{0, 9, -1, -8, 10, 100, 1 << 32, 1<<32 + 1, math.MaxInt, math.MinInt}
	noGrinds     = []int{-1, 13, -12, 14, 32, 64, 1 << 32, math.MaxInt, math.MinInt}
	noOpenVars   = []int{0, 7, -1, -6, 8, 63, 64, 1 << 32, 1<<32 + 1, math.MaxInt, math.MinInt}
	rightSetting = impl.Setting{Rate: 2, Queries: 3, Grind: 2}
)

// wrongSettings have one number out of its bounds, or all of them.
func wrongSettings() []impl.Setting {
	list := []impl.Setting{{}, {Rate: -1, Queries: -1, Grind: -1}, {Rate: 4, Queries: 9, Grind: 13}}
	for _, n := range noRates {
		list = append(list, impl.Setting{Rate: n, Queries: 1}, impl.Setting{Rate: n, Queries: 8, Grind: 12})
	}
	for _, n := range noQueries {
		list = append(list, impl.Setting{Rate: 1, Queries: n}, impl.Setting{Rate: 3, Queries: n, Grind: 12})
	}
	for _, n := range noGrinds {
		list = append(list, impl.Setting{Rate: 1, Queries: 1, Grind: n}, impl.Setting{Rate: 3, Queries: 8, Grind: n})
	}
	return list
}

// fewForOpening are right sources with fewer than 100 draws left.
func fewForOpening() []impl.Source {
	var list []impl.Source
	for _, script := range [][]impl.Ext{nil, mixedExts(5)} {
		s := impl.Source{State: hashed("openings"), Script: script}
		for _, left := range []int{0, 1, 6, 14, 98, 99} {
			n := allDraws - left
			list = append(list, withNumbers(s, n, 0), withNumbers(s, 0, n), withNumbers(s, n, n), withNumbers(s, n, allDraws-leftForOpening))
		}
	}
	return list
}

func asksCommitCode(t *testing.T, table []impl.Ext, rate, want int) {
	t.Helper()
	if root, code := impl.CommitTable(table, rate); root != "" || code != want {
		t.Error("CommitTable", len(table), rate, len(root), code, want)
	}
}

func TestCommitTableFaults(t *testing.T) {
	for _, rate := range append([]int{1, 2, 3}, noRates...) {
		for _, f := range faultyTables() {
			asksCommitCode(t, f.list, rate, f.code)
		}
		for _, list := range [][]impl.Ext{mixedExts(longList), extsWith(longList, 0, badExt)} {
			asksCommitCode(t, list, rate, impl.ErrLong)
		}
		for _, n := range noTables {
			asksCommitCode(t, mixedExts(n), rate, impl.ErrBad)
		}
		for _, bad := range wrongExts() {
			asksCommitCode(t, []impl.Ext{bad}, rate, impl.ErrBad)
			asksCommitCode(t, []impl.Ext{ext1, bad}, rate, impl.ErrBad)
		}
		asksCommitCode(t, []impl.Ext{ext1}, rate, impl.ErrRange)
	}
	for _, rate := range noRates {
		for n := 1; n <= maxTable; n *= 2 {
			asksCommitCode(t, mixedExts(n), rate, impl.ErrRange)
		}
	}
}

// openTableAsked is what OpenTable is handed.
type openTableAsked struct {
	table, point []impl.Ext
	set          impl.Setting
	s            impl.Source
}

func (a openTableAsked) asksCode(t *testing.T, want int) {
	t.Helper()
	o, end, code := impl.OpenTable(a.table, a.point, a.set, a.s)
	if !sameOpening(o, impl.Opening{}) || !isNoSource(end) || code != want {
		t.Error("OpenTable", len(a.table), len(a.point), a.set, a.s.At, a.s.Count, "has", code, "is to have", want)
	}
}

// openTableFault is one thing that may be wrong, with its code; they stand in the order in which chapter 10 names them.
type openTableFault struct {
	code int
	does func(a *openTableAsked)
}

func openTableFaults() []openTableFault {
	return []openTableFault{
		{impl.ErrLong, func(a *openTableAsked) { a.table = mixedExts(longList) }},
		{impl.ErrLong, func(a *openTableAsked) { a.point = mixedExts(longList) }},
		{impl.ErrBad, func(a *openTableAsked) { a.table = mixedExts(3) }},
		{impl.ErrBad, func(a *openTableAsked) { a.table = nil }},
		{impl.ErrBad, func(a *openTableAsked) { a.table = mixedExts(128) }},
		{impl.ErrBad, func(a *openTableAsked) { a.table = extsWith(4, 3, badExt) }},
		{impl.ErrBad, func(a *openTableAsked) { a.table = []impl.Ext{badExt} }},
		{impl.ErrBad, func(a *openTableAsked) { a.point = extsWith(2, 1, badExt) }},
		{impl.ErrBad, func(a *openTableAsked) { a.point = mixedExts(7) }},
		{impl.ErrBad, func(a *openTableAsked) { a.set.Rate = 0 }},
		{impl.ErrBad, func(a *openTableAsked) { a.set.Queries = 9 }},
		{impl.ErrBad, func(a *openTableAsked) { a.set.Grind = 13 }},
		{impl.ErrBad, func(a *openTableAsked) { a.s.State = "short" }},
		{impl.ErrBad, func(a *openTableAsked) { a.s.Script = []impl.Ext{badExt} }},
		{impl.ErrRange, func(a *openTableAsked) { a.table = []impl.Ext{ext1} }},
		{impl.ErrRange, func(a *openTableAsked) { a.table, a.point = []impl.Ext{ext1}, nil }},
		{impl.ErrSize, func(a *openTableAsked) { a.point = nil }},
		{impl.ErrSize, func(a *openTableAsked) { a.point = mixedExts(1) }},
		{impl.ErrSize, func(a *openTableAsked) { a.point = mixedExts(3) }},
		{impl.ErrSize, func(a *openTableAsked) { a.point = mixedExts(6) }},
		{impl.ErrMany, func(a *openTableAsked) { a.s.At = allDraws - 99 }},
		{impl.ErrMany, func(a *openTableAsked) { a.s.Count = allDraws }},
	}
}

func TestOpenTableOrderOfCodes(t *testing.T) {
	for _, s := range cheatSources() {
		base := openTableAsked{mixedExts(4), mixedExts(2), rightSetting, s}
		faults := openTableFaults()
		for i, first := range faults {
			one := base
			first.does(&one)
			one.asksCode(t, first.code)
			for _, second := range faults[i+1:] {
				// The first one is done last, so that the other one can't take it away again.
				two := base
				second.does(&two)
				first.does(&two)
				two.asksCode(t, first.code)
			}
		}
	}
}

func TestOpenTableFaults(t *testing.T) {
	right := openTableAsked{mixedExts(4), mixedExts(2), rightSetting, impl.Source{State: hashed("openings")}}
	for _, n := range noTables {
		openTableAsked{mixedExts(n), right.point, right.set, right.s}.asksCode(t, impl.ErrBad)
	}
	for _, bad := range wrongExts() {
		openTableAsked{[]impl.Ext{ext1, bad}, right.point[:1], right.set, right.s}.asksCode(t, impl.ErrBad)
		openTableAsked{right.table, []impl.Ext{bad, ext1}, right.set, right.s}.asksCode(t, impl.ErrBad)
	}
	for _, set := range wrongSettings() {
		openTableAsked{right.table, right.point, set, right.s}.asksCode(t, impl.ErrBad)
	}
	for _, s := range wrongSources() {
		openTableAsked{right.table, right.point, right.set, s}.asksCode(t, impl.ErrBad)
	}
	for _, s := range fewForOpening() {
		for vars := 1; vars <= impl.MaxVars; vars++ {
			openTableAsked{mixedExts(1 << vars), mixedExts(vars), impl.Setting{Rate: 1, Queries: 1}, s}.asksCode(t, impl.ErrMany)
		}
	}
	for n := range impl.MaxVars + 1 {
		openTableAsked{[]impl.Ext{extX}, mixedExts(n), right.set, right.s}.asksCode(t, impl.ErrRange)
		for vars := 1; vars <= impl.MaxVars; vars++ {
			if n != vars {
				openTableAsked{mixedExts(1 << vars), mixedExts(n), right.set, right.s}.asksCode(t, impl.ErrSize)
			}
		}
	}
}

// notOpenings have one thing wrong each with a right one of at least two variables: parts missing, too many, of other lengths, or not right.
func notOpenings(right impl.Opening) map[string]impl.Opening {
	list := map[string]impl.Opening{"nothing": {}}
	add := func(name string, does func(o *impl.Opening)) {
		o := copied(right)
		does(&o)
		list[name] = o
	}
	add("no rounds", func(o *impl.Opening) { o.Rounds = nil })
	add("a round less", func(o *impl.Opening) { o.Rounds = o.Rounds[1:] })
	add("a round more", func(o *impl.Opening) { o.Rounds = append(o.Rounds, mixedExts(3)) })
	add("many rounds", func(o *impl.Opening) { o.Rounds = slices.Repeat(o.Rounds, longList) })
	add("no roots", func(o *impl.Opening) { o.Roots = nil })
	add("a root more", func(o *impl.Opening) { o.Roots = append(o.Roots, hashed("x")) })
	add("many roots", func(o *impl.Opening) { o.Roots = slices.Repeat(o.Roots, longList) })
	add("no queries", func(o *impl.Opening) { o.Queries = nil })
	add("a query less", func(o *impl.Opening) { o.Queries = o.Queries[1:] })
	add("a query more", func(o *impl.Opening) { o.Queries = append(o.Queries, o.Queries[0]) })
	for _, n := range wrongNonces {
		add(fmt.Sprint("nonce ", n), func(o *impl.Opening) { o.Nonce = n })
	}
	for i, bad := range wrongExts() {
		add(fmt.Sprint("last ", i), func(o *impl.Opening) { o.Last = bad })
		add(fmt.Sprint("round's ", i), func(o *impl.Opening) { o.Rounds[i%len(o.Rounds)][i%3] = bad })
		add(fmt.Sprint("pair's ", i), func(o *impl.Opening) {
			q := o.Queries[i%len(o.Queries)]
			q.Pairs[i%len(q.Pairs)] = bad
		})
	}
	addRounds(add, right)
	addQueries(add, right)
	return list
}

func addRounds(add func(name string, does func(o *impl.Opening)), right impl.Opening) {
	for at := range right.Rounds {
		for _, n := range []int{0, 1, 2, 4, 8, 9, longList} {
			add(fmt.Sprint("round ", at, " of ", n), func(o *impl.Opening) { o.Rounds[at] = mixedExts(n) })
		}
	}
	for at := range right.Roots {
		for _, n := range []int{0, 31, 33, 64, tooLong} {
			add(fmt.Sprint("root ", at, " of ", n), func(o *impl.Opening) { o.Roots[at] = strings.Repeat("h", n) })
		}
	}
}

func addQueries(add func(name string, does func(o *impl.Opening)), right impl.Opening) {
	for i, q := range right.Queries {
		name := fmt.Sprint("query ", i, ": ")
		add(name+"nothing", func(o *impl.Opening) { o.Queries[i] = impl.Query{} })
		for _, n := range []int{0, 1, len(q.Pairs) - 2, len(q.Pairs) - 1, len(q.Pairs) + 1, len(q.Pairs) + 2, longList} {
			add(fmt.Sprint(name, n, " elements"), func(o *impl.Opening) { o.Queries[i].Pairs = mixedExts(n) })
		}
		add(name+"no paths", func(o *impl.Opening) { o.Queries[i].Paths = nil })
		add(name+"a path less", func(o *impl.Opening) { o.Queries[i].Paths = q.Paths[:len(q.Paths)-1] })
		add(name+"a path more", func(o *impl.Opening) { o.Queries[i].Paths = append(o.Queries[i].Paths, q.Paths[0]) })
		add(name+"paths turned", func(o *impl.Opening) { slices.Reverse(o.Queries[i].Paths) })
		for word, path := range q.Paths {
			at := fmt.Sprint(name, "word ", word, ", ")
			add(at+"no hash", func(o *impl.Opening) { o.Queries[i].Paths[word] = nil })
			add(at+"a hash less", func(o *impl.Opening) { o.Queries[i].Paths[word] = path[1:] })
			add(at+"a hash more", func(o *impl.Opening) { o.Queries[i].Paths[word] = append(slices.Clone(path), hashed("x")) })
			for _, n := range []int{0, 31, 33, tooLong} {
				add(fmt.Sprint(at, "a hash of ", n), func(o *impl.Opening) { o.Queries[i].Paths[word][len(path)-1] = strings.Repeat("h", n) })
			}
		}
	}
}

// asksNoOpening wants that nothing takes an opening for one of these variables and that setting.
func asksNoOpening(t *testing.T, a openAsked, what ...any) {
	t.Helper()
	if impl.OpeningOK(a.o, a.vars, a.set) {
		t.Error("OpeningOK", a.vars, a.set, what)
	}
	if b, code := impl.OpeningBytes(a.o, a.vars, a.set); len(b) != 0 || code != impl.ErrBad {
		t.Error("OpeningBytes", a.vars, a.set, what, len(b), code)
	}
}

func TestWhatIsNoOpening(t *testing.T) {
	for _, vars := range []int{2, 3, 6} {
		for _, s := range cheatSources() {
			a := rightAsked(t, vars, rightSetting, s)
			for name, o := range notOpenings(a.o) {
				b := a
				b.o = o
				asksNoOpening(t, b, name)
				b.asks(t, impl.ErrLength, name)
			}
		}
	}
}

// An opening is one of its own variables and setting alone (but for the bits of its nonce).
func TestOpeningsOfOthers(t *testing.T) {
	right := rightAsked(t, 3, rightSetting, cheatSources()[0])
	for vars := 1; vars <= impl.MaxVars; vars++ {
		for rate := 1; rate <= impl.MaxRate; rate++ {
			for queries := 1; queries <= impl.MaxQueries; queries++ {
				a := right
				a.vars, a.point, a.set = vars, mixedExts(vars), impl.Setting{Rate: rate, Queries: queries, Grind: 2}
				if vars == 3 && rate == rightSetting.Rate && queries == rightSetting.Queries {
					continue
				}
				asksNoOpening(t, a)
				a.asks(t, impl.ErrLength)
			}
		}
	}
	for grind := range impl.MaxGrind + 1 {
		set := rightSetting
		set.Grind = grind
		if !impl.OpeningOK(right.o, 3, set) {
			t.Error("OpeningOK of", grind, "bits")
		}
	}
	for _, n := range noOpenVars {
		a := right
		a.vars = n
		asksNoOpening(t, a)
		a.asks(t, impl.ErrRange)
	}
	for _, set := range wrongSettings() {
		a := right
		a.set = set
		asksNoOpening(t, a)
		a.asks(t, impl.ErrBad)
	}
}

// Of more variables than a table may have there is no opening, however right its lengths are.
func TestOpeningsOfTooManyVariables(t *testing.T) {
	for vars := impl.MaxVars + 1; vars <= 10; vars++ {
		for _, set := range someSettings() {
			asksNoOpening(t, openAsked{vars: vars, set: set, o: madeUp(vars, set)})
			asksReadCode(t, plainBytes(madeUp(vars, set)), vars, set, impl.ErrRange)
		}
	}
}

// None of these has anything that could be wrong but vars or the setting.
func TestNothingIsNoOpening(t *testing.T) {
	for _, n := range noOpenVars {
		asksNoOpening(t, openAsked{vars: n, set: rightSetting})
		asksNoOpening(t, openAsked{vars: n})
	}
	asksNoOpening(t, openAsked{vars: 1, o: impl.Opening{Rounds: [][]impl.Ext{mixedExts(3)}}})
	asksNoOpening(t, openAsked{vars: 1, set: impl.Setting{Rate: 1}, o: impl.Opening{Rounds: [][]impl.Ext{mixedExts(3)}}})
	zero := impl.Opening{Rounds: [][]impl.Ext{mixedExts(3)}, Queries: []impl.Query{{Pairs: mixedExts(2), Paths: [][]string{nil}}}}
	asksNoOpening(t, openAsked{vars: 1, set: impl.Setting{Queries: 1}, o: zero})
}

func TestCheckOpeningFaults(t *testing.T) {
	right := rightAsked(t, 2, rightSetting, cheatSources()[0])
	for _, bad := range wrongExts() {
		a := right
		a.value = bad
		a.asks(t, impl.ErrBad, "value", bad)
		for at := range 2 {
			a = right
			a.point = slices.Clone(right.point)
			a.point[at] = bad
			a.asks(t, impl.ErrBad, "point", bad)
		}
	}
	for _, s := range wrongSources() {
		a := right
		a.s = s
		a.asks(t, impl.ErrBad, "source")
	}
	for _, s := range append(fewForOpening(), withNumbers(right.s, 0, allDraws-99)) {
		a := right
		a.s = s
		a.asks(t, impl.ErrMany, "source", s.At, s.Count)
	}
	for n := range impl.MaxVars + 1 {
		a := right
		a.point = mixedExts(n)
		if n != 2 {
			a.asks(t, impl.ErrRange, "a point of", n)
		}
		for vars := range impl.MaxVars + 2 {
			if a.vars = vars; vars != n {
				a.asks(t, impl.ErrRange, vars, "variables, a point of", n)
			}
		}
	}
	for _, n := range []int{7, 8, 64, impl.MaxList} {
		a := right
		a.point, a.vars = mixedExts(n), n
		a.asks(t, impl.ErrBad, "a point of", n)
	}
}

// checkFaults stand in the order in which chapter 10 names them.
func checkFaults() []struct {
	code int
	does func(a *openAsked)
} {
	return []struct {
		code int
		does func(a *openAsked)
	}{
		{impl.ErrLong, func(a *openAsked) { a.root = strings.Repeat("r", tooLong) }},
		{impl.ErrLong, func(a *openAsked) { a.point = mixedExts(longList) }},
		{impl.ErrBad, func(a *openAsked) { a.point = extsWith(3, 2, badExt) }},
		{impl.ErrBad, func(a *openAsked) { a.point = mixedExts(7) }},
		{impl.ErrBad, func(a *openAsked) { a.value = badExt }},
		{impl.ErrBad, func(a *openAsked) { a.set.Rate = 4 }},
		{impl.ErrBad, func(a *openAsked) { a.set.Queries = 0 }},
		{impl.ErrBad, func(a *openAsked) { a.set.Grind = -1 }},
		{impl.ErrBad, func(a *openAsked) { a.s.State = "short" }},
		{impl.ErrRange, func(a *openAsked) { a.vars = 0 }},
		{impl.ErrRange, func(a *openAsked) { a.vars, a.point = 0, nil }},
		{impl.ErrRange, func(a *openAsked) { a.vars = 7 }},
		{impl.ErrRange, func(a *openAsked) { a.point = mixedExts(2) }},
		{impl.ErrRange, func(a *openAsked) { a.point = nil }},
		{impl.ErrLength, func(a *openAsked) { a.o.Queries = a.o.Queries[1:] }},
		{impl.ErrLength, func(a *openAsked) { a.o.Nonce = -1 }},
		{impl.ErrLength, func(a *openAsked) { a.o.Rounds[0] = append(a.o.Rounds[0], ext0) }},
		{impl.ErrLength, func(a *openAsked) { a.o.Last = badExt }},
		{impl.ErrLength, func(a *openAsked) { a.o.Roots[0] = "short" }},
		{impl.ErrMany, func(a *openAsked) { a.s.At = allDraws - 99 }},
		{impl.ErrMany, func(a *openAsked) { a.s.Count = allDraws }},
		{impl.ErrSum, func(a *openAsked) { a.value = extAdd(a.value, ext1) }},
		{impl.ErrClaim, func(a *openAsked) { a.o.Last = extAdd(a.o.Last, ext1) }},
		{impl.ErrPath, func(a *openAsked) { a.root = "short" }},
	}
}

func TestCheckOpeningOrderOfCodes(t *testing.T) {
	for _, s := range cheatSources() {
		right, faults := rightAsked(t, 3, rightSetting, s), checkFaults()
		for i, first := range faults {
			one := right.changed(func(*impl.Opening) {})
			first.does(&one)
			one.asks(t, first.code, "fault", i)
			for j, second := range faults[i+1:] {
				two := right.changed(func(*impl.Opening) {})
				second.does(&two)
				first.does(&two)
				two.asks(t, first.code, "faults", i, i+1+j)
			}
		}
	}
}

func asksReadCode(t *testing.T, b []byte, vars int, set impl.Setting, want int) {
	t.Helper()
	if o, code := impl.ReadOpening(b, vars, set); !sameOpening(o, impl.Opening{}) || code != want {
		t.Error("ReadOpening", len(b), vars, set, "has", code, "is to have", want)
	}
}

func TestBytesCutAndDrawnOut(t *testing.T) {
	for _, vars := range []int{1, 2, 6} {
		for _, set := range []impl.Setting{{Rate: 1, Queries: 1}, rightSetting, {Rate: 3, Queries: 8}} {
			b := plainBytes(madeUp(vars, set))
			for n := range b {
				asksReadCode(t, b[:n], vars, set, impl.ErrForm)
				asksReadCode(t, b[len(b)-n:], vars, set, impl.ErrForm)
			}
			for _, n := range []int{1, 4, 8, 32, len(b), impl.MaxText - len(b)} {
				asksReadCode(t, append(slices.Clone(b), make([]byte, n)...), vars, set, impl.ErrForm)
				asksReadCode(t, append(make([]byte, n), b...), vars, set, impl.ErrForm)
			}
		}
	}
	for _, b := range [][]byte{nil, {}, {0}, make([]byte, impl.MaxText)} {
		asksReadCode(t, b, 3, rightSetting, impl.ErrForm)
	}
}

// wordsOfBytes are where the bytes of an opening have numbers below Prime, and where the nonce stands.
func wordsOfBytes(vars int, set impl.Setting) ([]int, int) {
	var numbers []int
	at := 0
	exts := func(n int) {
		for range 2 * n {
			numbers = append(numbers, at)
			at += 4
		}
	}
	exts(3 * vars)
	at += 32 * (vars - 1)
	exts(1)
	nonce := at
	at += 4
	for range set.Queries {
		exts(2 * vars)
		for word := range vars {
			at += 32 * (vars + set.Rate - 1 - word)
		}
	}
	return numbers, nonce
}

func withBytes(b []byte, at int, text string) []byte {
	b = slices.Clone(b)
	copy(b[at:], text)
	return b
}

func TestBytesOfWrongNumbers(t *testing.T) {
	for _, vars := range []int{1, 2, 4} {
		for _, set := range []impl.Setting{{Rate: 1, Queries: 1}, rightSetting} {
			b := plainBytes(madeUp(vars, set))
			numbers, nonce := wordsOfBytes(vars, set)
			for _, at := range numbers {
				for _, text := range []string{fourBytes(prime), fourBytes(prime + 1), "\x80\x00\x00\x00", "\xff\xff\xff\xff"} {
					asksReadCode(t, withBytes(b, at, text), vars, set, impl.ErrForm)
				}
				changed := withBytes(b, at, fourBytes(prime-1))
				if o, code := impl.ReadOpening(changed, vars, set); code != impl.OK || !slices.Equal(plainBytes(o), changed) {
					t.Error(vars, set, "the greatest number at", at, code)
				}
			}
			for _, n := range []int{65536, 65537, 1 << 24, 1 << 31, 1<<32 - 1} {
				asksReadCode(t, withBytes(b, nonce, fourBytes(n)), vars, set, impl.ErrForm)
			}
			if o, code := impl.ReadOpening(withBytes(b, nonce, fourBytes(65535)), vars, set); code != impl.OK || o.Nonce != 65535 {
				t.Error(vars, set, "the last nonce", o.Nonce, code)
			}
		}
	}
}

// Whatever bytes are read, what they are read as has just these.
func TestEachBitOfBytes(t *testing.T) {
	vars, set := 2, impl.Setting{Rate: 1, Queries: 2}
	b := plainBytes(madeUp(vars, set))
	read, refused := 0, 0
	for bit := range 8 * len(b) {
		changed := []byte(turned(string(b), bit))
		o, code := impl.ReadOpening(changed, vars, set)
		switch back, bytesCode := impl.OpeningBytes(o, vars, set); {
		case code == impl.OK && bytesCode == impl.OK && slices.Equal(back, changed):
			read++
		case code == impl.ErrForm && sameOpening(o, impl.Opening{}):
			refused++
		default:
			t.Fatal("bit", bit, code, bytesCode)
		}
	}
	if read == 0 || refused == 0 {
		t.Error(read, "are read", refused, "are refused")
	}
}

func TestReadOpeningOrderOfCodes(t *testing.T) {
	right := plainBytes(madeUp(3, rightSetting))
	long := make([]byte, tooLong)
	for _, set := range wrongSettings() {
		for _, vars := range append([]int{3}, noOpenVars...) {
			asksReadCode(t, right, vars, set, impl.ErrBad)
			asksReadCode(t, nil, vars, set, impl.ErrBad)
			asksReadCode(t, long, vars, set, impl.ErrLong)
			if size, code := impl.OpeningSize(vars, set); size != 0 || code != impl.ErrBad {
				t.Error("OpeningSize", vars, set, size, code)
			}
		}
	}
	for _, vars := range noOpenVars {
		asksReadCode(t, right, vars, rightSetting, impl.ErrRange)
		asksReadCode(t, right[1:], vars, rightSetting, impl.ErrRange)
		asksReadCode(t, nil, vars, rightSetting, impl.ErrRange)
		asksReadCode(t, long, vars, rightSetting, impl.ErrLong)
		if size, code := impl.OpeningSize(vars, rightSetting); size != 0 || code != impl.ErrRange {
			t.Error("OpeningSize", vars, size, code)
		}
	}
	asksReadCode(t, long, 3, rightSetting, impl.ErrLong)
	for vars := 1; vars <= impl.MaxVars; vars++ {
		if vars != 3 {
			asksReadCode(t, right, vars, rightSetting, impl.ErrForm)
		}
	}
}
