package tests

import (
	"math/big"
	"slices"
	"testing"

	"loop.example/g00348/impl"
)

// Promise 11.

// entriesIn are n entries of a matrix of so many rows and columns, spread over it, by rows, then by columns.
func entriesIn(rows, cols, n int, values ...int) []impl.Entry {
	d := draws(uint64(rows*cols + n))
	var list []impl.Entry
	for place := range rows * cols {
		// A place is taken as likely as entries are left to places that are: in the end they are just n.
		if left := rows*cols - place; d.next()%left < n-len(list) {
			list = append(list, impl.Entry{Row: place / cols, Col: place % cols, Value: 1 + d.next()%(prime-1)})
		}
	}
	for i := range list {
		if len(values) > 0 {
			list[i].Value = values[i%len(values)]
		}
	}
	return list
}

// someMatrices are of no entry, of one at each corner, of all values alike, full ones, and of as many as there may be.
func someMatrices(rows, cols int) [][]impl.Entry {
	most := min(rows*cols, 200)
	list := [][]impl.Entry{
		nil, {}, {{Value: 1}}, {{Row: rows - 1, Col: cols - 1, Value: prime - 1}},
		{{Col: cols - 1, Value: prime - 1}, {Row: rows - 1, Value: 1}},
		entriesIn(rows, cols, most), entriesIn(rows, cols, most, prime-1), entriesIn(rows, cols, most, 1, prime-1, 2),
	}
	for _, n := range []int{1, 2, most / 3, most / 2, most - 1} {
		list = append(list, entriesIn(rows, cols, n))
	}
	return list
}

// numbersOf are n numbers: edges and mixed ones, from another place on each.
func numbersOf(n, from int) []int {
	list := someNumbers(60)
	answer := make([]int, n)
	for i := range answer {
		answer[i] = list[(from+i)%len(list)]
	}
	return answer
}

// someVectors are lists of n numbers.
func someVectors(n int) [][]int {
	last := make([]int, n)
	last[n-1] = prime - 1
	return [][]int{make([]int, n), slices.Repeat([]int{1}, n), slices.Repeat([]int{prime - 1}, n), last, numbersOf(n, 0), numbersOf(n, 7), numbersOf(n, 21), numbersOf(n, 50)}
}

// plainRows is the product by numbers of any size, row by row.
func plainRows(list []impl.Entry, rows int, z []int) []int {
	answer := make([]int, rows)
	for row := range answer {
		sum := new(big.Int)
		for _, e := range list {
			if e.Row == row {
				sum.Add(sum, new(big.Int).Mul(big.NewInt(int64(e.Value)), big.NewInt(int64(z[e.Col]))))
			}
		}
		answer[row] = bigMod(sum)
	}
	return answer
}

// plainFailed are the rows where A's product times B's is not C's.
func plainFailed(s impl.System, z []int) []int {
	rows := 1 << s.Rows
	a, b, c := plainRows(s.A, rows, z), plainRows(s.B, rows, z), plainRows(s.C, rows, z)
	var failed []int
	for row := range rows {
		if mul(a[row], b[row]) != c[row] {
			failed = append(failed, row)
		}
	}
	return failed
}

// plainVector is the two halves, each filled up with noughts.
func plainVector(cols int, publics, privates []int) []int {
	half := 1 << (cols - 1)
	first := append(append([]int{1}, publics...), make([]int, half-1-len(publics))...)
	second := append(slices.Clone(privates), make([]int, half-len(privates))...)
	return append(first, second...)
}

func mulMatrix(t *testing.T, list []impl.Entry, rows int, z []int) []int {
	t.Helper()
	answer, code := impl.MulMatrix(list, rows, z)
	if code != impl.OK || len(answer) != 1<<rows {
		t.Fatal("MulMatrix", len(list), rows, len(z), answer, code)
	}
	return answer
}

func matrixAt(t *testing.T, list []impl.Entry, rx, ry []impl.Ext) impl.Ext {
	t.Helper()
	value, code := impl.MatrixAt(list, rx, ry)
	if code != impl.OK {
		t.Fatal("MatrixAt", len(list), len(rx), len(ry), code)
	}
	return value
}

func vectorOf(t *testing.T, s impl.System, publics, privates []int) []int {
	t.Helper()
	z, code := impl.VectorOf(s, publics, privates)
	if code != impl.OK || len(z) != 1<<s.Cols {
		t.Fatal("VectorOf", s.Cols, s.Publics, len(publics), len(privates), z, code)
	}
	return z
}

func digestOf(t *testing.T, s impl.System) string {
	t.Helper()
	digest, code := impl.SystemDigest(s)
	if code != impl.OK || len(digest) != 32 {
		t.Fatal("SystemDigest", s, len(digest), code)
	}
	return digest
}

// eachSize goes through all numbers of rows and columns that a system may have.
func eachSize(does func(rows, cols int)) {
	for rows := 1; rows <= 5; rows++ {
		for cols := 2; cols <= 5; cols++ {
			does(rows, cols)
		}
	}
}

func TestSystemBounds(t *testing.T) {
	if impl.MaxLog != 5 || impl.MaxEntries != 200 {
		t.Error(impl.MaxLog, impl.MaxEntries)
	}
}

func TestSystemNumbersInTheirBounds(t *testing.T) {
	for rows := -2; rows <= 8; rows++ {
		for cols := -2; cols <= 8; cols++ {
			for publics := -3; publics <= 140; publics++ {
				want := rows >= 1 && rows <= 5 && cols >= 2 && cols <= 5 && publics >= 0 && publics < 1<<(max(cols, 1)-1)
				if s := (impl.System{Rows: rows, Cols: cols, Publics: publics}); impl.SystemOK(s) != want {
					t.Error(s, "is right:", !want)
				}
			}
		}
	}
}

func TestRightMatrices(t *testing.T) {
	eachSize(func(rows, cols int) {
		for i, list := range someMatrices(1<<rows, 1<<cols) {
			for j, s := range []impl.System{{A: list}, {B: list}, {C: list}, {A: list, B: list, C: list}} {
				s.Rows, s.Cols, s.Publics = rows, cols, (i+j)%(1<<(cols-1))
				if !impl.SystemOK(s) {
					t.Error(rows, cols, "matrix", i, "in", j, "is not right")
				}
			}
		}
	})
	if n := len(entriesIn(32, 32, 200)); n != 200 {
		t.Error("the longest matrix has", n)
	}
}

func TestVectorsHaveTwoHalves(t *testing.T) {
	for cols := 2; cols <= 5; cols++ {
		half := 1 << (cols - 1)
		for publics := range half {
			s := impl.System{Rows: 1 + publics%5, Cols: cols, Publics: publics}
			for privates := 0; privates <= half; privates++ {
				for from := range 20 {
					p, q := numbersOf(publics, from), numbersOf(privates, 3*from+1)
					if got := vectorOf(t, s, p, q); !slices.Equal(got, plainVector(cols, p, q)) {
						t.Fatal(cols, p, q, got)
					}
				}
			}
		}
	}
}

func TestVectorsByHand(t *testing.T) {
	for i, c := range []struct {
		cols              int
		publics, privates []int
		want              []int
	}{
		{2, nil, nil, []int{1, 0, 0, 0}},
		{2, []int{5}, nil, []int{1, 5, 0, 0}},
		{2, nil, []int{7}, []int{1, 0, 7, 0}},
		{2, nil, []int{7, 8}, []int{1, 0, 7, 8}},
		{2, []int{5}, []int{7, 8}, []int{1, 5, 7, 8}},
		{3, []int{0, 6}, []int{0, 8}, []int{1, 0, 6, 0, 0, 8, 0, 0}},
		{3, []int{5, 6, prime - 1}, []int{prime - 1, 2, 3, 4}, []int{1, 5, 6, prime - 1, prime - 1, 2, 3, 4}},
		{4, []int{5}, []int{9}, []int{1, 5, 0, 0, 0, 0, 0, 0, 9, 0, 0, 0, 0, 0, 0, 0}},
	} {
		s := impl.System{Rows: 1, Cols: c.cols, Publics: len(c.publics)}
		if got := vectorOf(t, s, c.publics, c.privates); !slices.Equal(got, c.want) {
			t.Error("case", i, got)
		}
	}
}

// The matrices have nothing to say of a vector.
func TestVectorsHangOnTheColumnsAlone(t *testing.T) {
	for i, list := range someMatrices(4, 8) {
		s := impl.System{Rows: 2, Cols: 3, Publics: 2, A: list, B: list, C: list}
		if got := vectorOf(t, s, []int{5, 6}, []int{7, 8, 9}); !slices.Equal(got, []int{1, 5, 6, 0, 7, 8, 9, 0}) {
			t.Error("matrix", i, got)
		}
	}
}

// z may be of one number, and of two, where a system has four columns at least.
func TestMatrixTimesVector(t *testing.T) {
	for rows := 1; rows <= 5; rows++ {
		for cols := 0; cols <= 5; cols++ {
			for i, list := range someMatrices(1<<rows, 1<<cols) {
				for j, z := range someVectors(1 << cols) {
					if got := mulMatrix(t, list, rows, z); !slices.Equal(got, plainRows(list, 1<<rows, z)) {
						t.Fatal(rows, cols, "matrix", i, "vector", j, got)
					}
				}
			}
		}
	}
}

func TestMatrixTimesVectorByHand(t *testing.T) {
	list := []impl.Entry{{Row: 0, Col: 1, Value: 10}, {Row: 0, Col: 3, Value: 1}, {Row: 2, Col: 0, Value: prime - 1}, {Row: 3, Col: 3, Value: 7}}
	if got := mulMatrix(t, list, 2, []int{1, 2, 3, 4}); !slices.Equal(got, []int{24, 0, prime - 1, 28}) {
		t.Error(got)
	}
	if got := mulMatrix(t, []impl.Entry{{Row: 1, Value: 3}}, 1, []int{5}); !slices.Equal(got, []int{0, 15}) {
		t.Error("one number", got)
	}
	full := entriesIn(2, 32, 64, prime-1)
	// 32 times -1 times -1
	if got := mulMatrix(t, full, 1, slices.Repeat([]int{prime - 1}, 32)); !slices.Equal(got, []int{32, 32}) {
		t.Error("32 numbers", got)
	}
}

// valueAt is the matrix's own number in a cell.
func valueAt(list []impl.Entry, row, col int) impl.Ext {
	for _, e := range list {
		if e.Row == row && e.Col == col {
			return impl.Ext{A: e.Value}
		}
	}
	return ext0
}

func TestMatrixTableHasItsEntries(t *testing.T) {
	for rows := 1; rows <= 5; rows++ {
		for cols := 1; cols <= 5; cols++ {
			for i, list := range someMatrices(1<<rows, 1<<cols) {
				for row := range 1 << rows {
					for col := range 1 << cols {
						if got := matrixAt(t, list, placePoint(row, rows), placePoint(col, cols)); got != valueAt(list, row, col) {
							t.Fatal(rows, cols, "matrix", i, "at", row, col, got)
						}
					}
				}
			}
		}
	}
}

// plainMatrixAt is the sum of the Values, each by both points' tables.
func plainMatrixAt(list []impl.Entry, rx, ry []impl.Ext) impl.Ext {
	sum := ext0
	for _, e := range list {
		sum = extAdd(sum, extMul(impl.Ext{A: e.Value}, extMul(plainEq(rx, e.Row), plainEq(ry, e.Col))))
	}
	return sum
}

func TestMatrixAtAnyPoint(t *testing.T) {
	for rows := 1; rows <= 5; rows++ {
		for cols := 1; cols <= 5; cols++ {
			rxs, rys := somePoints(rows), somePoints(cols)
			for i, list := range someMatrices(1<<rows, 1<<cols) {
				for j, rx := range rxs {
					ry := rys[(i+5*j)%len(rys)]
					if got := matrixAt(t, list, rx, ry); got != plainMatrixAt(list, rx, ry) {
						t.Fatal(rows, cols, "matrix", i, "at", rx, ry, got)
					}
				}
			}
		}
	}
}

// All cells of a matrix that is small enough are one table: the columns' variables stand ahead of the rows'.
func TestMatrixIsATable(t *testing.T) {
	for rows := 1; rows <= 5; rows++ {
		for cols := 1; rows+cols <= impl.MaxVars; cols++ {
			for i, list := range someMatrices(1<<rows, 1<<cols) {
				table := make([]impl.Ext, 1<<(rows+cols))
				for _, e := range list {
					table[e.Row<<cols+e.Col] = impl.Ext{A: e.Value}
				}
				for _, point := range somePoints(rows + cols) {
					if got := matrixAt(t, list, point[cols:], point[:cols]); got != tableAt(t, table, point) {
						t.Fatal(rows, cols, "matrix", i, "at", point, got)
					}
				}
			}
		}
	}
}

// The products' table at a point of rows is what the matrix's table comes to with the vector, column by column.
func TestProductsTable(t *testing.T) {
	eachSize(func(rows, cols int) {
		for i, list := range someMatrices(1<<rows, 1<<cols) {
			z, rx := numbersOf(1<<cols, i), somePoints(rows)[7+i]
			sum := ext0
			for col, n := range z {
				sum = extAdd(sum, extMul(impl.Ext{A: n}, matrixAt(t, list, rx, placePoint(col, cols))))
			}
			if got := tableAt(t, elements(mulMatrix(t, list, rows, z)...), rx); got != sum {
				t.Fatal(rows, cols, "matrix", i, got, sum)
			}
		}
	})
}

// satisfiedBy is a system of A and B whose C has each row's product beside the vector's 1.
func satisfiedBy(rows, cols int, a, b []impl.Entry, z []int) impl.System {
	s := impl.System{Rows: rows, Cols: cols, A: a, B: b}
	left, right := plainRows(a, 1<<rows, z), plainRows(b, 1<<rows, z)
	for row := range left {
		if value := mul(left[row], right[row]); value != 0 {
			s.C = append(s.C, impl.Entry{Row: row, Value: value})
		}
	}
	return s
}

// asksFailed wants the first of the rows that fail of FailedRow, and that Satisfied goes with it.
func asksFailed(t *testing.T, s impl.System, z []int, failed []int, what ...any) {
	t.Helper()
	wantRow, wantCode := 0, impl.ErrNone
	if len(failed) > 0 {
		wantRow, wantCode = failed[0], impl.OK
	}
	if row, code := impl.FailedRow(s, z); row != wantRow || code != wantCode {
		t.Fatal(what, "FailedRow", row, code, "but failed are", failed)
	}
	if is, code := impl.Satisfied(s, z); is != (len(failed) == 0) || code != impl.OK {
		t.Fatal(what, "Satisfied", is, code, "but failed are", failed)
	}
}

// mixedVector begins with a 1, and has edges and mixed numbers in both halves.
func mixedVector(cols, from int) []int {
	return plainVector(cols, numbersOf(1<<(cols-1)-1, from), numbersOf(1<<(cols-1), 2*from+5))
}

func TestSatisfiedJustIfNoRowFails(t *testing.T) {
	eachSize(func(rows, cols int) {
		matrices := someMatrices(1<<rows, 1<<cols)
		for i := range matrices {
			for j := range matrices {
				z := mixedVector(cols, i+j)
				s := satisfiedBy(rows, cols, matrices[i], matrices[j], z)
				asksFailed(t, s, z, nil, rows, cols, i, j)
				s.C = matrices[(i+2*j)%len(matrices)]
				asksFailed(t, s, z, plainFailed(s, z), "any C", rows, cols, i, j)
			}
		}
	})
}

// failing is the system with C's products another one in these rows.
func failing(s impl.System, rows ...int) impl.System {
	list := slices.Clone(s.C)
	for _, row := range rows {
		at := slices.IndexFunc(list, func(e impl.Entry) bool { return e.Row >= row })
		switch {
		case at < 0:
			list = append(list, impl.Entry{Row: row, Value: 1})
		case list[at].Row > row:
			list = slices.Insert(list, at, impl.Entry{Row: row, Value: prime - 1})
		default:
			list[at].Value = 1 + list[at].Value%(prime-1)
		}
	}
	s.C = list
	return s
}

func TestFirstOfSeveralRowsThatFail(t *testing.T) {
	eachSize(func(rows, cols int) {
		n, z := 1<<rows, mixedVector(cols, rows)
		most := min(n<<cols, 200)
		s := satisfiedBy(rows, cols, entriesIn(n, 1<<cols, most), entriesIn(n, 1<<cols, most/2), z)
		for first := range n {
			asksFailed(t, failing(s, first), z, []int{first}, rows, cols)
			for second := first + 1; second < n; second++ {
				asksFailed(t, failing(s, first, second), z, []int{first, second}, rows, cols)
				asksFailed(t, failing(s, second, n-1, first), z, []int{first, second, n - 1}, rows, cols)
			}
		}
		all := make([]int, n)
		for row := range all {
			all[row] = row
		}
		asksFailed(t, failing(s, all...), z, all, rows, cols, "all")
	})
}

// Row by row a number of the vector is the product of two others.
func TestChangedVectorsFail(t *testing.T) {
	s := impl.System{Rows: 2, Cols: 4, Publics: 3}
	for row := range 4 {
		s.A = append(s.A, impl.Entry{Row: row, Col: row, Value: 1})
		s.B = append(s.B, impl.Entry{Row: row, Col: 8 + row, Value: 2})
		s.C = append(s.C, impl.Entry{Row: row, Col: 12 + row, Value: 1})
	}
	z := vectorOf(t, s, []int{3, 5, 7}, []int{11, 13, 17, 19, 22, 78, 170, 266})
	asksFailed(t, s, z, nil)
	for at := range z {
		for _, by := range []int{1, 2, prime - 1} {
			other := slices.Clone(z)
			other[at] = add(z[at], by)
			var failed []int
			if at < 4 || at >= 8 {
				failed = []int{at % 4}
			}
			asksFailed(t, s, other, failed, "at", at, "by", by)
		}
	}
	asksFailed(t, s, make([]int, 16), nil, "noughts")
	asksFailed(t, s, slices.Repeat([]int{prime - 1}, 16), []int{0, 1, 2, 3}, "-1")
}

func TestSystemWithoutEntriesIsSatisfied(t *testing.T) {
	eachSize(func(rows, cols int) {
		for i, z := range someVectors(1 << cols) {
			asksFailed(t, impl.System{Rows: rows, Cols: cols}, z, nil, rows, cols, i)
		}
	})
}

// Products of numbers next to Prime, in A and B and behind them.
func TestRowsOfGreatNumbers(t *testing.T) {
	full := entriesIn(2, 32, 64, prime-1)
	s := impl.System{Rows: 1, Cols: 5, A: full, B: full, C: []impl.Entry{{Col: 0, Value: 1024}, {Row: 1, Col: 0, Value: prime - 1024}}}
	z := slices.Repeat([]int{prime - 1}, 32)
	// 32 by 32; C has 1024 times -1, then -1024 times -1
	asksFailed(t, s, z, []int{0})
	s.C = []impl.Entry{{Value: prime - 1024}, {Row: 1, Value: prime - 1024}}
	asksFailed(t, s, z, nil)
	s.C[1].Value = 1024
	asksFailed(t, s, z, []int{1})
}

// digestBytes are those that chapter 11 tells.
func digestBytes(s impl.System) []byte {
	b := append([]byte("system"), byte(s.Rows), byte(s.Cols), byte(s.Publics))
	for _, list := range [][]impl.Entry{s.A, s.B, s.C} {
		b = append(b, fourBytes(len(list))...)
		for _, e := range list {
			b = append(append(b, byte(e.Row), byte(e.Col)), fourBytes(e.Value)...)
		}
	}
	return b
}

func plainDigest(s impl.System) string { return impl.Keccak256(digestBytes(s)) }

func TestSystemDigest(t *testing.T) {
	eachSize(func(rows, cols int) {
		matrices := someMatrices(1<<rows, 1<<cols)
		for i := range matrices {
			s := impl.System{
				Rows: rows, Cols: cols, Publics: i % (1 << (cols - 1)),
				A: matrices[i], B: matrices[(i+3)%len(matrices)], C: matrices[(5*i+1)%len(matrices)],
			}
			if digestOf(t, s) != plainDigest(s) {
				t.Error(rows, cols, "matrix", i)
			}
		}
	})
}

func TestSystemDigestByHand(t *testing.T) {
	s := impl.System{
		Rows: 5, Cols: 4, Publics: 7,
		A: []impl.Entry{{Row: 1, Col: 2, Value: 0x01020304}, {Row: 31, Col: 15, Value: prime - 1}},
		C: []impl.Entry{{Value: 255}},
	}
	text := "system\x05\x04\x07" + "\x00\x00\x00\x02\x01\x02\x01\x02\x03\x04\x1f\x0f\x7f\x00\x00\x00" + "\x00\x00\x00\x00" + "\x00\x00\x00\x01\x00\x00\x00\x00\x00\xff"
	if digestOf(t, s) != hashed(text) {
		t.Error("three matrices")
	}
	if digestOf(t, impl.System{Rows: 1, Cols: 2}) != hashed("system\x01\x02\x00", "\x00\x00\x00\x00\x00\x00\x00\x00\x00\x00\x00\x00") {
		t.Error("no entries")
	}
}

// Systems that differ in one thing have digests of their own.
func TestDigestsDiffer(t *testing.T) {
	one, two := []impl.Entry{{Row: 1, Col: 2, Value: 3}}, []impl.Entry{{Row: 1, Col: 2, Value: 3}, {Row: 1, Col: 3, Value: 3}}
	seen := map[string]int{}
	for i, s := range []impl.System{
		{Rows: 2, Cols: 3, Publics: 1}, {Rows: 3, Cols: 3, Publics: 1}, {Rows: 2, Cols: 4, Publics: 1}, {Rows: 2, Cols: 3, Publics: 2},
		{Rows: 2, Cols: 3, A: one}, {Rows: 2, Cols: 3, B: one}, {Rows: 2, Cols: 3, C: one}, {Rows: 2, Cols: 3, A: one, B: two}, {Rows: 2, Cols: 3, A: two, B: one},
		{Rows: 2, Cols: 3, A: two}, {Rows: 2, Cols: 3, A: one, B: one, C: one}, {Rows: 2, Cols: 3, A: []impl.Entry{{Row: 2, Col: 2, Value: 3}}},
		{Rows: 2, Cols: 3, A: []impl.Entry{{Row: 1, Col: 1, Value: 3}}}, {Rows: 2, Cols: 3, A: []impl.Entry{{Row: 1, Col: 2, Value: 4}}},
	} {
		digest := digestOf(t, s)
		if before, is := seen[digest]; is {
			t.Error("systems", before, "and", i, "have one digest")
		}
		seen[digest] = i
	}
}
