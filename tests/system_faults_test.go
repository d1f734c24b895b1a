package tests

import (
	"math"
	"slices"
	"testing"

	"loop.example/g00348/impl"
)

// Promise 11, of wrong systems, matrices, numbers and lengths, and of two things that are wrong at once.

// noEntries are out of any matrix of 4 rows and 8 columns, or have no Value of one.
func noEntries() []impl.Entry {
	var list []impl.Entry
	for _, n := range []int{-1, -2, 1 << 32, 1<<32 + 1, 1 << 62, math.MaxInt, math.MinInt} {
		list = append(list, impl.Entry{Row: n, Col: 1, Value: 1}, impl.Entry{Row: 1, Col: n, Value: 1})
	}
	list = append(list,
		impl.Entry{Row: 4, Value: 1}, impl.Entry{Row: 5, Col: 7, Value: 1}, impl.Entry{Row: 32, Value: 1},
		impl.Entry{Col: 8, Value: 1}, impl.Entry{Row: 3, Col: 9, Value: 1}, impl.Entry{Row: 3, Col: 32, Value: 1},
		impl.Entry{}, impl.Entry{Row: 3, Col: 7},
	)
	for _, n := range wrongNumbers {
		list = append(list, impl.Entry{Row: 1, Col: 1, Value: n}, impl.Entry{Row: 3, Col: 7, Value: n})
	}
	return list
}

// noMatrices are lists that are no matrix of 4 rows and 8 columns.
func noMatrices() [][]impl.Entry {
	var lists [][]impl.Entry
	for _, bad := range noEntries() {
		first, last := impl.Entry{Value: 1}, impl.Entry{Row: 3, Col: 7, Value: 1}
		lists = append(lists, []impl.Entry{bad}, []impl.Entry{first, bad}, []impl.Entry{bad, last}, []impl.Entry{first, bad, last})
	}
	at := func(row, col int) impl.Entry { return impl.Entry{Row: row, Col: col, Value: 1 + row + col} }
	lists = append(lists,
		[]impl.Entry{at(1, 0), at(0, 0)}, []impl.Entry{at(1, 0), at(0, 7)}, []impl.Entry{at(0, 1), at(0, 0)},
		[]impl.Entry{at(0, 0), at(2, 5), at(2, 4), at(3, 7)}, []impl.Entry{at(0, 0), at(2, 5), at(1, 6), at(3, 7)},
		[]impl.Entry{at(0, 0), at(3, 7), at(1, 1)}, []impl.Entry{at(3, 7), at(0, 0), at(1, 1)},
		[]impl.Entry{at(0, 0), at(0, 0)}, []impl.Entry{at(0, 0), at(1, 1), at(1, 1), at(2, 2)}, []impl.Entry{at(1, 1), at(2, 2), at(1, 1)},
		[]impl.Entry{{Value: 1}, {Value: 2}}, []impl.Entry{{Value: 2}, {Value: 1}}, []impl.Entry{{Row: 3, Col: 7, Value: 5}, {Row: 3, Col: 7, Value: 6}},
	)
	full := entriesIn(4, 8, 32)
	for i := range len(full) - 1 {
		swapped := slices.Clone(full)
		swapped[i], swapped[i+1] = swapped[i+1], swapped[i]
		lists = append(lists, swapped, slices.Insert(slices.Clone(full), i+1, full[i]))
	}
	for _, n := range []int{201, 202, impl.MaxList} {
		lists = append(lists, slices.Repeat([]impl.Entry{at(0, 0)}, n), slices.Repeat(full, n)[:n])
	}
	return lists
}

// tooManyEntries are in order and all right but for how many they are.
func tooManyEntries() []impl.Entry { return entriesIn(32, 32, 201) }

func asksVectorCode(t *testing.T, s impl.System, publics, privates []int, want int, what ...any) {
	t.Helper()
	if got, code := impl.VectorOf(s, publics, privates); len(got) != 0 || code != want {
		t.Error("VectorOf", what, got, code, want)
	}
}

func asksRowCode(t *testing.T, s impl.System, z []int, want int, what ...any) {
	t.Helper()
	if is, code := impl.Satisfied(s, z); is || code != want {
		t.Error("Satisfied", what, is, code, want)
	}
	if row, code := impl.FailedRow(s, z); row != 0 || code != want {
		t.Error("FailedRow", what, row, code, want)
	}
}

func asksMulCode(t *testing.T, list []impl.Entry, rows int, z []int, want int, what ...any) {
	t.Helper()
	if got, code := impl.MulMatrix(list, rows, z); len(got) != 0 || code != want {
		t.Error("MulMatrix", len(list), rows, len(z), what, got, code, want)
	}
}

func asksAtCode(t *testing.T, list []impl.Entry, rx, ry []impl.Ext, want int, what ...any) {
	t.Helper()
	if got, code := impl.MatrixAt(list, rx, ry); got != ext0 || code != want {
		t.Error("MatrixAt", len(list), len(rx), len(ry), what, got, code, want)
	}
}

// asksNoSystem wants that a system is not right, whatever is handed in with it.
func asksNoSystem(t *testing.T, s impl.System, what ...any) {
	t.Helper()
	if impl.SystemOK(s) {
		t.Error("SystemOK", what)
	}
	if digest, code := impl.SystemDigest(s); digest != "" || code != impl.ErrBad {
		t.Error("SystemDigest", what, len(digest), code)
	}
	for _, z := range [][]int{nil, {1, 0, 0, 0}, numbersOf(8, 3), numbersOf(5, 0), {prime}, make([]int, impl.MaxList)} {
		asksVectorCode(t, s, nil, z, impl.ErrBad, what, len(z))
		asksVectorCode(t, s, z, nil, impl.ErrBad, what, len(z))
		asksRowCode(t, s, z, impl.ErrBad, what, len(z))
	}
	long := make([]int, longList)
	asksVectorCode(t, s, long, nil, impl.ErrLong, what)
	asksVectorCode(t, s, nil, long, impl.ErrLong, what)
	asksRowCode(t, s, long, impl.ErrLong, what)
}

func TestSystemsOfWrongNumbers(t *testing.T) {
	far := []int{-1, -5, 6, 7, 62, 63, 64, 65, 1 << 32, 1<<32 + 2, math.MaxInt, math.MinInt}
	for _, n := range append(far, 0) {
		asksNoSystem(t, impl.System{Rows: n, Cols: 3}, "Rows", n)
		asksNoSystem(t, impl.System{Rows: n, Cols: 3, A: entriesIn(2, 8, 9)}, "Rows", n)
	}
	for _, n := range append(far, 0, 1) {
		asksNoSystem(t, impl.System{Rows: 2, Cols: n}, "Cols", n)
		asksNoSystem(t, impl.System{Rows: 2, Cols: n, Publics: -1, C: entriesIn(4, 2, 5)}, "Cols", n)
	}
	for cols := 2; cols <= 5; cols++ {
		half := 1 << (cols - 1)
		for _, n := range []int{-1, -half, half, half + 1, 2 * half, 1 << 32, math.MaxInt, math.MinInt} {
			asksNoSystem(t, impl.System{Rows: 2, Cols: cols, Publics: n}, "Publics", n)
		}
	}
}

func TestListsThatAreNoMatrices(t *testing.T) {
	for i, list := range noMatrices() {
		for j, s := range []impl.System{{A: list}, {B: list}, {C: list}} {
			s.Rows, s.Cols, s.Publics = 2, 3, 3
			asksNoSystem(t, s, "list", i, "in", j)
		}
		asksMulCode(t, list, 2, numbersOf(8, i), impl.ErrBad, "list", i)
		asksAtCode(t, list, mixedExts(2), mixedExts(3), impl.ErrBad, "list", i)
	}
	many := tooManyEntries()
	for j, s := range []impl.System{{A: many}, {B: many}, {C: many}} {
		s.Rows, s.Cols = 5, 5
		asksNoSystem(t, s, "201 entries in", j)
	}
	asksMulCode(t, many, 5, numbersOf(32, 0), impl.ErrBad)
	asksAtCode(t, many, mixedExts(5), mixedExts(5), impl.ErrBad)
	asksNoSystem(t, impl.System{Rows: 5, Cols: 5, B: entriesIn(32, 32, 1024)}, "1024 entries")
	asksNoSystem(t, impl.System{Rows: 1, Cols: 2, C: make([]impl.Entry, longList)}, "a list in a struct has no ErrLong")
}

// A wrong matrix stands among right ones, and the right ones ahead of it or behind it do not make it right.
func TestOneWrongMatrixOfThree(t *testing.T) {
	right := entriesIn(4, 8, 12)
	for i, list := range noMatrices() {
		asksNoSystem(t, impl.System{Rows: 2, Cols: 3, A: list, B: right, C: right}, "A", i)
		asksNoSystem(t, impl.System{Rows: 2, Cols: 3, A: right, B: list, C: right}, "B", i)
		asksNoSystem(t, impl.System{Rows: 2, Cols: 3, A: right, B: right, C: list}, "C", i)
	}
}

// What lies in the greatest matrix may be out of a lesser one.
func TestEntriesOutOfALesserMatrix(t *testing.T) {
	for rows := 1; rows <= 5; rows++ {
		for cols := 0; cols <= 5; cols++ {
			n, m := 1<<rows, 1<<cols
			for _, bad := range []impl.Entry{{Row: n, Value: 1}, {Row: 31, Col: 31, Value: 1}, {Col: m, Value: 1}, {Row: n - 1, Col: m, Value: 1}, {Row: n, Col: m - 1, Value: 1}} {
				if bad.Row < n && bad.Col < m {
					continue
				}
				asksMulCode(t, []impl.Entry{bad}, rows, numbersOf(m, 1), impl.ErrBad, bad)
				if cols >= 1 {
					asksAtCode(t, []impl.Entry{bad}, mixedExts(rows), mixedExts(cols), impl.ErrBad, bad)
				}
				if cols >= 2 {
					asksNoSystem(t, impl.System{Rows: rows, Cols: cols, C: []impl.Entry{bad}}, bad)
				}
			}
		}
	}
}

// numbersWith are n right numbers but for one.
func numbersWith(n, at, bad int) []int {
	list := numbersOf(n, at)
	list[at] = bad
	return list
}

func TestWrongNumbersInVectors(t *testing.T) {
	s := impl.System{Rows: 2, Cols: 3, Publics: 3, A: entriesIn(4, 8, 9)}
	for _, bad := range wrongNumbers {
		for _, n := range []int{1, 3, 4, 5, 8, 9, impl.MaxList} {
			for _, at := range []int{0, n / 2, n - 1} {
				list := numbersWith(n, at, bad)
				asksVectorCode(t, s, list, nil, impl.ErrBad, n, at, bad)
				asksVectorCode(t, s, numbersOf(3, 0), list, impl.ErrBad, n, at, bad)
				asksVectorCode(t, s, nil, list, impl.ErrBad, n, at, bad)
				asksRowCode(t, s, list, impl.ErrBad, n, at, bad)
			}
		}
		for cols := range 6 {
			for _, at := range []int{0, 1 << cols / 2, 1<<cols - 1} {
				asksMulCode(t, nil, 2, numbersWith(1<<cols, at, bad), impl.ErrBad, at, bad)
			}
		}
	}
}

func TestVectorsOfOtherLengths(t *testing.T) {
	for cols := 2; cols <= 5; cols++ {
		half := 1 << (cols - 1)
		for publics := range half {
			s := impl.System{Rows: 1, Cols: cols, Publics: publics}
			for n := range 2*half + 3 {
				if n != publics {
					asksVectorCode(t, s, numbersOf(n, 1), nil, impl.ErrSize, s, n)
					asksVectorCode(t, s, numbersOf(n, 1), numbersOf(half, 2), impl.ErrSize, s, n)
				}
				if n > half {
					asksVectorCode(t, s, numbersOf(publics, 1), numbersOf(n, 2), impl.ErrSize, s, n)
				}
				if n != 2*half {
					asksRowCode(t, s, numbersOf(n, 1), impl.ErrSize, s, n)
				}
			}
			asksVectorCode(t, s, numbersOf(publics, 1), make([]int, half+1), impl.ErrSize, s, "noughts")
			asksVectorCode(t, s, make([]int, impl.MaxList), nil, impl.ErrSize, s)
			asksVectorCode(t, s, numbersOf(publics, 0), make([]int, impl.MaxList), impl.ErrSize, s)
			asksRowCode(t, s, make([]int, impl.MaxList), impl.ErrSize, s)
			asksRowCode(t, s, nil, impl.ErrSize, s)
		}
	}
}

var noVectorLengths = []int{0, 3, 5, 6, 7, 9, 12, 15, 17, 24, 31, 33, 48, 63, 64, 128, 1024, impl.MaxList}

// Numbers out of their bounds are told ahead of all that is wrong with the list and with z's numbers.
func TestMulMatrixRanges(t *testing.T) {
	lists := [][]impl.Entry{nil, entriesIn(2, 2, 3), {{Row: -1}}, make([]impl.Entry, 201), make([]impl.Entry, impl.MaxList)}
	for i, list := range lists {
		for _, rows := range []int{0, -1, 6, 7, 63, 64, 1 << 32, 1<<32 + 1, math.MaxInt, math.MinInt} {
			for _, n := range []int{1, 4, 32, 3, 64} {
				asksMulCode(t, list, rows, numbersOf(n, 0), impl.ErrRange, "list", i)
				asksMulCode(t, list, rows, numbersWith(n, n-1, -1), impl.ErrRange, "list", i)
			}
		}
		for _, n := range noVectorLengths {
			asksMulCode(t, list, 1, numbersOf(n, 0), impl.ErrRange, "list", i)
			asksMulCode(t, list, 5, slices.Repeat([]int{prime}, n), impl.ErrRange, "list", i)
		}
	}
}

func TestMatrixAtRanges(t *testing.T) {
	lists := [][]impl.Entry{nil, entriesIn(2, 2, 3), {{Row: -1}}, make([]impl.Entry, 201), make([]impl.Entry, impl.MaxList)}
	for i, list := range lists {
		for _, n := range []int{0, 6, 7, 31, 63, 64, 65, impl.MaxList} {
			bad := slices.Repeat([]impl.Ext{badExt}, n)
			for other := range 8 {
				asksAtCode(t, list, mixedExts(n), mixedExts(other), impl.ErrRange, "list", i)
				asksAtCode(t, list, mixedExts(other), mixedExts(n), impl.ErrRange, "list", i)
				asksAtCode(t, list, bad, slices.Repeat([]impl.Ext{badExt}, other), impl.ErrRange, "list", i)
				asksAtCode(t, list, slices.Repeat([]impl.Ext{badExt}, other), bad, impl.ErrRange, "list", i)
			}
		}
	}
}

func TestMatrixAtWrongElements(t *testing.T) {
	for _, list := range [][]impl.Entry{nil, entriesIn(2, 2, 3), {{Value: prime}}} {
		for _, bad := range wrongExts() {
			for n := 1; n <= 5; n++ {
				for at := range n {
					asksAtCode(t, list, extsWith(n, at, bad), mixedExts(1), impl.ErrBad, bad)
					asksAtCode(t, list, mixedExts(1), extsWith(n, at, bad), impl.ErrBad, bad)
				}
			}
		}
	}
}

// Beyond MaxList nothing else is looked at.
func TestTooLongForMatrices(t *testing.T) {
	long, entries := make([]int, longList), make([]impl.Entry, longList)
	for _, rows := range []int{2, 0, math.MinInt} {
		for _, n := range []int{8, 3, 0} {
			asksMulCode(t, entries, rows, numbersOf(n, 0), impl.ErrLong)
			asksMulCode(t, entries, rows, slices.Repeat([]int{-1}, n), impl.ErrLong)
			asksAtCode(t, entries, mixedExts(n), mixedExts(2), impl.ErrLong)
			asksAtCode(t, entries, slices.Repeat([]impl.Ext{badExt}, n), mixedExts(n), impl.ErrLong)
		}
		asksMulCode(t, nil, rows, long, impl.ErrLong)
		asksMulCode(t, []impl.Entry{{Row: -1}}, rows, slices.Repeat([]int{-1}, longList), impl.ErrLong)
	}
	for n := range 7 {
		asksAtCode(t, nil, mixedExts(longList), mixedExts(n), impl.ErrLong)
		asksAtCode(t, nil, mixedExts(n), mixedExts(longList), impl.ErrLong)
		asksAtCode(t, []impl.Entry{{Row: -1}}, mixedExts(n), slices.Repeat([]impl.Ext{badExt}, longList), impl.ErrLong)
	}
	s := impl.System{Rows: 2, Cols: 3, Publics: 2}
	asksVectorCode(t, s, long, nil, impl.ErrLong)
	asksVectorCode(t, s, []int{1, 2}, long, impl.ErrLong)
	asksVectorCode(t, s, []int{-1}, long, impl.ErrLong)
	asksVectorCode(t, s, slices.Repeat([]int{-1}, longList), []int{prime}, impl.ErrLong)
	asksRowCode(t, s, long, impl.ErrLong)
	asksRowCode(t, s, slices.Repeat([]int{-1}, longList), impl.ErrLong)
}

// A number that is wrong is told ahead of a length that is, in whichever list they are.
func TestWrongNumbersAheadOfWrongLengths(t *testing.T) {
	s := impl.System{Rows: 2, Cols: 3, Publics: 2}
	for i, c := range []struct {
		publics, privates []int
		code              int
	}{
		{[]int{1}, []int{1, 2, prime}, impl.ErrBad},
		{[]int{1, 2, 3}, []int{-1}, impl.ErrBad},
		{[]int{1, prime}, make([]int, 5), impl.ErrBad},
		{[]int{-1}, make([]int, 5), impl.ErrBad},
		{nil, []int{1, 2, 3, 4, -1}, impl.ErrBad},
		{[]int{1}, []int{1, 2, 3, 4}, impl.ErrSize},
		{[]int{1, 2}, make([]int, 5), impl.ErrSize},
		{nil, nil, impl.ErrSize},
	} {
		asksVectorCode(t, s, c.publics, c.privates, c.code, "case", i)
	}
	for _, n := range []int{1, 7, 9, 64} {
		asksRowCode(t, s, numbersWith(n, n-1, prime), impl.ErrBad, n)
		asksRowCode(t, s, numbersWith(n, 0, -1), impl.ErrBad, n)
	}
}

// Lists of just as many as there may be are right.
func TestLongestLists(t *testing.T) {
	longest := entriesIn(32, 32, 200)
	s := impl.System{Rows: 5, Cols: 5, Publics: 15, A: longest, B: longest, C: longest}
	z := vectorOf(t, s, numbersOf(15, 0), numbersOf(16, 9))
	if !impl.SystemOK(s) {
		t.Error("200 entries")
	}
	asksFailed(t, s, z, plainFailed(s, z))
	if got := mulMatrix(t, longest, 5, z); !slices.Equal(got, plainRows(longest, 32, z)) {
		t.Error(got)
	}
	if rx, ry := mixedExts(5), mixedExts(10)[5:]; matrixAt(t, longest, rx, ry) != plainMatrixAt(longest, rx, ry) {
		t.Error("MatrixAt")
	}
	if digestOf(t, s) != plainDigest(s) {
		t.Error("SystemDigest")
	}
}

// A list that begins with no 1, or has no noughts where VectorOf has them, is multiplied like any other.
func TestAnyNumbersAreMultiplied(t *testing.T) {
	s := impl.System{Rows: 1, Cols: 2, Publics: 0, A: []impl.Entry{{Col: 0, Value: 1}}, B: []impl.Entry{{Col: 1, Value: 1}}, C: []impl.Entry{{Col: 3, Value: 1}}}
	asksFailed(t, s, []int{2, 3, 4, 6}, nil)
	asksFailed(t, s, []int{0, 3, 4, 0}, nil)
	asksFailed(t, s, []int{2, 3, 4, 5}, []int{0})
}
