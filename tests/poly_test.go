package tests

import (
	"slices"
	"testing"

	"loop.example/g00348/impl"
)

// Promise 7.

const maxTable = 64

var noTables = []int{0, 3, 5, 6, 7, 12, 31, 33, 63, 65, 96, 127, 128, 256, impl.MaxList}

// bitOf tells whether a place has variable v.
func bitOf(place, v int) bool { return place>>v&1 == 1 }

// placePoint is a place of noughts and ones as a point.
func placePoint(place, vars int) []impl.Ext {
	point := make([]impl.Ext, vars)
	for v := range point {
		if bitOf(place, v) {
			point[v] = ext1
		}
	}
	return point
}

// plainEq is what the document says of a point's table at one place.
func plainEq(point []impl.Ext, place int) impl.Ext {
	product := ext1
	for v, a := range point {
		if !bitOf(place, v) {
			a = extSub(ext1, a)
		}
		product = extMul(product, a)
	}
	return product
}

// plainTableAt is the sum of the values, each by the point's table.
func plainTableAt(table, point []impl.Ext) impl.Ext {
	sum := ext0
	for place, value := range table {
		sum = extAdd(sum, extMul(value, plainEq(point, place)))
	}
	return sum
}

// plainPolynomial is the sum of the coefficients, each by the variables that its place has.
func plainPolynomial(coefs, point []impl.Ext) impl.Ext {
	sum := ext0
	for place, c := range coefs {
		for v, a := range point {
			if bitOf(place, v) {
				c = extMul(c, a)
			}
		}
		sum = extAdd(sum, c)
	}
	return sum
}

// somePoints are points of so many elements: edges, mixed ones, and some noughts and ones among others.
func somePoints(vars int) [][]impl.Ext {
	var points [][]impl.Ext
	for _, a := range []impl.Ext{ext0, ext1, extX, {A: 2}, {A: prime - 1}, {A: prime - 1, B: prime - 1}, {A: (prime + 1) / 2}} {
		points = append(points, slices.Repeat([]impl.Ext{a}, vars))
	}
	edges := someExts(0)
	for i := range 10 {
		point := mixedExts(vars + 7*i)[7*i:]
		points = append(points, slices.Clone(point))
		for v := range point {
			if (v+i)%3 == 0 {
				point[v] = edges[(5*i+v)%len(edges)]
			}
		}
		points = append(points, point)
	}
	return points
}

// someTables are tables of so many variables: edges, mixed ones, and those with one value that is not 0.
func someTables(vars int) [][]impl.Ext {
	n := 1 << vars
	tables := [][]impl.Ext{
		make([]impl.Ext, n), slices.Repeat([]impl.Ext{ext1}, n), slices.Repeat([]impl.Ext{{A: prime - 1, B: prime - 1}}, n),
		mixedExts(n), mixedExts(n + 3)[3:], slices.Repeat(someExts(15), 2)[7 : 7+n],
	}
	for _, place := range []int{0, n / 2, n - 1} {
		table := make([]impl.Ext, n)
		table[place] = impl.Ext{A: 5, B: 7}
		tables = append(tables, table)
	}
	return tables
}

// elements are numbers, also such below 0, as elements.
func elements(numbers ...int) []impl.Ext {
	list := make([]impl.Ext, len(numbers))
	for i, n := range numbers {
		list[i] = impl.Ext{A: (n%prime + prime) % prime}
	}
	return list
}

func eqOf(t *testing.T, point []impl.Ext) []impl.Ext {
	t.Helper()
	table, code := impl.EqTable(point)
	if code != impl.OK || len(table) != 1<<len(point) {
		t.Fatal("EqTable", point, table, code)
	}
	return table
}

func tableAt(t *testing.T, table, point []impl.Ext) impl.Ext {
	t.Helper()
	value, code := impl.TableAt(table, point)
	if code != impl.OK {
		t.Fatal("TableAt", len(table), point, code)
	}
	return value
}

func folded(t *testing.T, table []impl.Ext, r impl.Ext) []impl.Ext {
	t.Helper()
	half, code := impl.FoldTable(table, r)
	if code != impl.OK || 2*len(half) != len(table) {
		t.Fatal("FoldTable", len(table), r, len(half), code)
	}
	return half
}

func coefsOf(t *testing.T, table []impl.Ext) []impl.Ext {
	t.Helper()
	coefs, code := impl.CoefsOf(table)
	if code != impl.OK || len(coefs) != len(table) {
		t.Fatal("CoefsOf", len(table), len(coefs), code)
	}
	return coefs
}

func tableOf(t *testing.T, coefs []impl.Ext) []impl.Ext {
	t.Helper()
	table, code := impl.TableOf(coefs)
	if code != impl.OK || len(table) != len(coefs) {
		t.Fatal("TableOf", len(coefs), len(table), code)
	}
	return table
}

func TestMaxVars(t *testing.T) {
	if impl.MaxVars != 6 {
		t.Error(impl.MaxVars)
	}
}

func TestTableOK(t *testing.T) {
	for vars := range impl.MaxVars + 1 {
		n := 1 << vars
		for _, table := range someTables(vars) {
			if !impl.TableOK(table) {
				t.Error("a table of", n)
			}
		}
		for _, place := range []int{0, n / 2, n - 1} {
			for _, bad := range wrongExts() {
				if impl.TableOK(extsWith(n, place, bad)) {
					t.Error("a table of", n, "with", bad, "at", place)
				}
			}
		}
	}
	for _, n := range append([]int{impl.MaxList + 1, 2 * impl.MaxList}, noTables...) {
		if impl.TableOK(make([]impl.Ext, n)) {
			t.Error("a table of", n)
		}
	}
	if impl.TableOK(nil) {
		t.Error("nil is a table")
	}
}

// TestOrderOfVariables says each place by hand: variable 0 is the lowest bit, the last one the highest.
func TestOrderOfVariables(t *testing.T) {
	if got := eqOf(t, elements(2)); !slices.Equal(got, elements(-1, 2)) {
		t.Error("one variable", got)
	}
	if got := eqOf(t, elements(2, 3)); !slices.Equal(got, elements(-1*-2, 2*-2, -1*3, 2*3)) {
		t.Error("two variables", got)
	}
	if got := eqOf(t, elements(2, 3, 5)); !slices.Equal(got, elements(2*-4, -4*-4, -3*-4, 6*-4, 2*5, -4*5, -3*5, 6*5)) {
		t.Error("three variables", got)
	}
	table := elements(1, 10, 100, 1000, 10000, 100000, 1000000, 10000000)
	for place, want := range table {
		if got := tableAt(t, table, elements(place%2, place/2%2, place/4)); got != want {
			t.Error("the value at", place, got)
		}
	}
	for _, c := range []struct {
		r    int
		want []impl.Ext
	}{
		{0, elements(1, 100, 10000, 1000000)},
		{1, elements(10, 1000, 100000, 10000000)},
		{2, elements(19, 1900, 190000, 19000000)},
		{-1, elements(-8, -800, -80000, -8000000)},
	} {
		if got := folded(t, table, elements(c.r)[0]); !slices.Equal(got, c.want) {
			t.Error("variable 0 bound to", c.r, got)
		}
	}
	// 1 + 2a + 3b + 4ab + 5c + 6ac + 7bc + 8abc
	coefs := elements(1, 2, 3, 4, 5, 6, 7, 8)
	values := elements(1, 1+2, 1+3, 1+2+3+4, 1+5, 1+2+5+6, 1+3+5+7, 36)
	if got := tableOf(t, coefs); !slices.Equal(got, values) {
		t.Error("TableOf", got)
	}
	if got := coefsOf(t, values); !slices.Equal(got, coefs) {
		t.Error("CoefsOf", got)
	}
}

func TestPointsTable(t *testing.T) {
	for vars := range impl.MaxVars + 1 {
		for _, point := range somePoints(vars) {
			sum := ext0
			for place, value := range eqOf(t, point) {
				if value != plainEq(point, place) {
					t.Fatal("EqTable", point, place, value)
				}
				sum = extAdd(sum, value)
			}
			if sum != ext1 {
				t.Error("a point's table sums to", sum, point)
			}
		}
	}
	if got := eqOf(t, nil); !slices.Equal(got, []impl.Ext{ext1}) {
		t.Error("no variables", got)
	}
}

func TestPlacesTables(t *testing.T) {
	for vars := range impl.MaxVars + 1 {
		for place := range 1 << vars {
			want := make([]impl.Ext, 1<<vars)
			want[place] = ext1
			if got := eqOf(t, placePoint(place, vars)); !slices.Equal(got, want) {
				t.Fatal("the table of place", place, got)
			}
			for other := range 1 << vars {
				if got, code := impl.EqAt(placePoint(place, vars), placePoint(other, vars)); code != impl.OK || got != want[other] {
					t.Fatal("EqAt of places", place, other, got, code)
				}
			}
		}
	}
}

func TestEqAt(t *testing.T) {
	for vars := range impl.MaxVars + 1 {
		points := somePoints(vars)
		for _, a := range points {
			for _, b := range points {
				want := ext1
				for v := range a {
					want = extMul(want, extAdd(extMul(a[v], b[v]), extMul(extSub(ext1, a[v]), extSub(ext1, b[v]))))
				}
				if got, code := impl.EqAt(a, b); code != impl.OK || got != want {
					t.Fatal("EqAt", a, b, got, code)
				}
				if got := tableAt(t, eqOf(t, a), b); got != want {
					t.Fatal("a point's table at a point", a, b, got)
				}
			}
		}
	}
	if got, code := impl.EqAt(nil, []impl.Ext{}); got != ext1 || code != impl.OK {
		t.Error("no elements", got, code)
	}
}

func TestTablesHaveTheirValues(t *testing.T) {
	for vars := range impl.MaxVars + 1 {
		for _, table := range someTables(vars) {
			for place, value := range table {
				if got := tableAt(t, table, placePoint(place, vars)); got != value {
					t.Fatal("the value at", place, "of", len(table), got, value)
				}
			}
			for _, point := range somePoints(vars) {
				if got := tableAt(t, table, point); got != plainTableAt(table, point) {
					t.Fatal("the value at", point, got)
				}
				if got := mustExt(impl.ExtDot(table, eqOf(t, point))); got != tableAt(t, table, point) {
					t.Fatal("the sum of the values times the point's table", point, got)
				}
			}
		}
	}
}

func TestTablesAreBoundVariableByVariable(t *testing.T) {
	for vars := 1; vars <= impl.MaxVars; vars++ {
		for _, table := range someTables(vars) {
			for _, point := range somePoints(vars) {
				rest := table
				for v, r := range point {
					half := folded(t, rest, r)
					for i, value := range half {
						a, b := rest[2*i], rest[2*i+1]
						if value != extAdd(a, extMul(r, extSub(b, a))) {
							t.Fatal("FoldTable", len(rest), i, r, value)
						}
					}
					rest = half
					if tableAt(t, rest, point[v+1:]) != plainTableAt(table, point) {
						t.Fatal("bound to the first of", point, v)
					}
				}
				if rest[0] != plainTableAt(table, point) {
					t.Fatal("bound to all of", point, rest)
				}
			}
		}
	}
}

func TestTablesAreThoseOfTheirCoefficients(t *testing.T) {
	for vars := range impl.MaxVars + 1 {
		for _, list := range someTables(vars) {
			coefs, table := coefsOf(t, list), tableOf(t, list)
			if !slices.Equal(tableOf(t, coefs), list) || !slices.Equal(coefsOf(t, table), list) {
				t.Fatal("one behind the other", list)
			}
			for place := range list {
				point := placePoint(place, vars)
				if plainPolynomial(coefs, point) != list[place] || plainPolynomial(list, point) != table[place] {
					t.Fatal("at place", place, "of", len(list))
				}
			}
			for _, point := range somePoints(vars) {
				if plainPolynomial(coefs, point) != tableAt(t, list, point) || plainPolynomial(list, point) != tableAt(t, table, point) {
					t.Fatal("at", point, "of", len(list))
				}
			}
		}
	}
}

// A coefficient alone is the product of the variables that its place has: 1 just where a place has them all.
func TestCoefficientAlone(t *testing.T) {
	for vars := range impl.MaxVars + 1 {
		for at := range 1 << vars {
			coefs := make([]impl.Ext, 1<<vars)
			coefs[at] = extX
			for place, value := range tableOf(t, coefs) {
				if (value == extX) != (place&at == at) || value != extX && value != ext0 {
					t.Fatal("coefficient", at, "at place", place, value)
				}
			}
		}
	}
}

// plainLine is Lagrange's form: each value by what is 1 at its place and 0 at the others.
func plainLine(values []impl.Ext, x impl.Ext) impl.Ext {
	sum := ext0
	for i, value := range values {
		for j := range values {
			if j != i {
				over := mustExt(impl.ExtInverse(elements(i - j)[0]))
				value = extMul(value, extMul(extSub(x, elements(j)[0]), over))
			}
		}
		sum = extAdd(sum, value)
	}
	return sum
}

// lineAts are the places of values and others beside them.
func lineAts() []impl.Ext {
	list := append(elements(0, 1, 2, 3, 4, 5, 6, 7, 8, 9, 10, 100, -1, -2, -7, -8), impl.Ext{B: 1}, impl.Ext{A: 3, B: 1}, impl.Ext{A: 3, B: prime - 1}, impl.Ext{A: (prime + 1) / 2})
	return append(list, mixedExts(5)...)
}

func TestLineHasItsValues(t *testing.T) {
	for n := 1; n <= 8; n++ {
		for _, values := range [][]impl.Ext{mixedExts(n), someExts(0)[:n], someExts(0)[40-n : 40], make([]impl.Ext, n), slices.Repeat([]impl.Ext{{A: prime - 1, B: prime - 1}}, n)} {
			for place, want := range values {
				if got, code := impl.LineAt(values, elements(place)[0]); got != want || code != impl.OK {
					t.Fatal("value", place, "of", n, got, want, code)
				}
			}
			for _, x := range lineAts() {
				if got, code := impl.LineAt(values, x); got != plainLine(values, x) || code != impl.OK {
					t.Fatal(n, "values at", x, got, code)
				}
			}
		}
	}
}

// Values of a polynomial of a lower degree than there is room for are its own, too.
func TestLineIsOfTheLeastDegree(t *testing.T) {
	for degree := range 8 {
		coefs := mixedExts(degree + 1)
		at := func(x impl.Ext) impl.Ext {
			y := ext0
			for i, c := range coefs {
				y = extAdd(y, extMul(c, extPow(x, i)))
			}
			return y
		}
		for n := degree + 1; n <= 8; n++ {
			var values []impl.Ext
			for place := range n {
				values = append(values, at(elements(place)[0]))
			}
			for _, x := range lineAts() {
				if got, code := impl.LineAt(values, x); got != at(x) || code != impl.OK {
					t.Fatal("degree", degree, "by", n, "values at", x, got, code)
				}
			}
		}
	}
}
