package tests

import (
	"math/bits"
	"slices"
	"testing"

	"loop.example/g00348/impl"
)

// Promise 8.

const (
	maxWord = 512
	maxRate = 9
)

// plainPolyAt is the sum of the coefficients, each by its power.
func plainPolyAt(coefs []impl.Ext, x impl.Ext) impl.Ext {
	sum, power := ext0, ext1
	for _, c := range coefs {
		sum = extAdd(sum, extMul(c, power))
		power = extMul(power, x)
	}
	return sum
}

// plainPlaces are the powers, from the 0th on, of the root of a word of n, by the rule of the document.
func plainPlaces(n int) []impl.Ext {
	root := bigPow(3, 127<<(24-(bits.Len(uint(n))-1)))
	places := make([]impl.Ext, n)
	for i := range places {
		places[i] = impl.Ext{A: bigPow(root, i)}
	}
	return places
}

// plainWord is a polynomial's values at the places of a word of n.
func plainWord(coefs []impl.Ext, n int) []impl.Ext {
	places := plainPlaces(n)
	word := make([]impl.Ext, n)
	for i := range word {
		word[i] = plainPolyAt(coefs, places[i])
	}
	return word
}

// plainFoldedCoefs are the even coefficients, each with r times the odd one beside it.
func plainFoldedCoefs(coefs []impl.Ext, r impl.Ext) []impl.Ext {
	half := make([]impl.Ext, len(coefs)/2)
	for i := range half {
		half[i] = extAdd(coefs[2*i], extMul(r, coefs[2*i+1]))
	}
	return half
}

// someCoefs are lists of n elements: edges, mixed ones, and those with one element that is not 0.
func someCoefs(n int) [][]impl.Ext {
	lists := [][]impl.Ext{
		make([]impl.Ext, n), slices.Repeat([]impl.Ext{ext1}, n), slices.Repeat([]impl.Ext{{A: prime - 1, B: prime - 1}}, n),
		mixedExts(n), mixedExts(n + 3)[3:], slices.Repeat(someExts(15), maxWord/64)[:n],
	}
	for _, place := range []int{0, 1 % n, n / 2, n - 1} {
		lists = append(lists, make([]impl.Ext, n))
		lists[len(lists)-1][place] = impl.Ext{A: 5, B: 7}
	}
	return lists
}

func foldNumbers() []impl.Ext {
	return append(elements(0, 1, 2, -1), extX, impl.Ext{A: (prime + 1) / 2, B: prime - 1}, mixedExts(9)[8])
}

func wordOf(t *testing.T, coefs []impl.Ext, rate int) []impl.Ext {
	t.Helper()
	word, code := impl.EncodeWord(coefs, rate)
	if code != impl.OK || len(word) != len(coefs)<<rate {
		t.Fatal("EncodeWord", len(coefs), rate, len(word), code)
	}
	return word
}

func ntt(t *testing.T, coefs []impl.Ext) []impl.Ext {
	t.Helper()
	values, code := impl.Ntt(coefs)
	if code != impl.OK || len(values) != len(coefs) {
		t.Fatal("Ntt", len(coefs), len(values), code)
	}
	return values
}

func inverseNtt(t *testing.T, values []impl.Ext) []impl.Ext {
	t.Helper()
	coefs, code := impl.InverseNtt(values)
	if code != impl.OK || len(coefs) != len(values) {
		t.Fatal("InverseNtt", len(values), len(coefs), code)
	}
	return coefs
}

func foldedWord(t *testing.T, word []impl.Ext, r impl.Ext) []impl.Ext {
	t.Helper()
	half, code := impl.FoldWord(word, r)
	if code != impl.OK || 2*len(half) != len(word) {
		t.Fatal("FoldWord", len(word), r, len(half), code)
	}
	return half
}

func isWord(t *testing.T, word []impl.Ext, rate int) bool {
	t.Helper()
	is, code := impl.IsWord(word, rate)
	if code != impl.OK {
		t.Fatal("IsWord", len(word), rate, code)
	}
	return is
}

func TestMaxWord(t *testing.T) {
	if impl.MaxWord != maxWord {
		t.Error(impl.MaxWord)
	}
}

// TestWordsByHand says where y and -y stand: -y half the word behind y.
func TestWordsByHand(t *testing.T) {
	root := must(impl.RootOf(2))
	for _, c := range []struct{ coefs, want []impl.Ext }{
		{elements(7), elements(7)},
		{[]impl.Ext{{A: 3, B: 4}, {A: 5, B: 7}}, []impl.Ext{{A: 8, B: 11}, {A: prime - 2, B: prime - 3}}},
		{elements(0, 1, 0, 0), elements(1, root, -1, -root)},
		{elements(0, 0, 1, 0), elements(1, -1, 1, -1)},
		{elements(0, 0, 0, 1), elements(1, -root, -1, root)},
		{elements(1, 10, 100, 1000), elements(1111, -99-990*root, -909, -99+990*root)},
	} {
		if got := ntt(t, c.coefs); !slices.Equal(got, c.want) {
			t.Error("Ntt", c.coefs, got)
		}
		if got := inverseNtt(t, c.want); !slices.Equal(got, c.coefs) {
			t.Error("InverseNtt", c.want, got)
		}
	}
	if got := foldedWord(t, elements(1111, -99-990*root, -909, -99+990*root), elements(2)[0]); !slices.Equal(got, elements(21+2100, 21-2100)) {
		t.Error("FoldWord", got)
	}
}

func TestValuesLeadToTheCoefficientsAndBack(t *testing.T) {
	for n := 1; n <= maxWord; n *= 2 {
		for _, list := range someCoefs(n) {
			if !slices.Equal(inverseNtt(t, ntt(t, list)), list) {
				t.Error("the coefficients of the values of", n)
			}
			if !slices.Equal(ntt(t, inverseNtt(t, list)), list) {
				t.Error("the values of the coefficients of", n)
			}
		}
	}
}

func TestValuesStandAtThePowersOfTheRoot(t *testing.T) {
	for n := 1; n <= maxWord; n *= 2 {
		root := must(impl.RootOf(bits.Len(uint(n)) - 1))
		for _, coefs := range someCoefs(n)[2:5] {
			values, want := ntt(t, coefs), plainWord(coefs, n)
			if !slices.Equal(values, want) {
				t.Fatal("the values of", n)
			}
			y := 1
			for i := range values {
				if got, code := impl.PolyAt(coefs, impl.Ext{A: y}); got != values[i] || code != impl.OK {
					t.Fatal("PolyAt of", n, "at power", i, got, code)
				}
				y = mul(y, root)
			}
		}
	}
}

// A polynomial with one coefficient has its value at the one place there is.
func TestWordOfOne(t *testing.T) {
	for _, a := range someExts(10) {
		one := []impl.Ext{a}
		if !slices.Equal(ntt(t, one), one) || !slices.Equal(inverseNtt(t, one), one) || !slices.Equal(wordOf(t, one, 0), one) || !isWord(t, one, 0) {
			t.Error(a)
		}
	}
}

func TestEncodeWord(t *testing.T) {
	for n := 1; n <= maxWord; n *= 2 {
		for rate := 0; n<<rate <= maxWord; rate++ {
			coefs := mixedExts(n)
			word := wordOf(t, coefs, rate)
			if !slices.Equal(word, plainWord(coefs, n<<rate)) {
				t.Error(n, "coefficients at rate", rate)
			}
			padded := append(slices.Clone(coefs), make([]impl.Ext, n<<rate-n)...)
			if !slices.Equal(ntt(t, padded), word) || !slices.Equal(inverseNtt(t, word), padded) {
				t.Error(n, "coefficients and noughts behind them at rate", rate)
			}
		}
		if coefs := mixedExts(n); !slices.Equal(wordOf(t, coefs, 0), ntt(t, coefs)) {
			t.Error("rate 0 of", n)
		}
	}
	for rate := range maxRate + 1 {
		if got := wordOf(t, []impl.Ext{extX}, rate); !slices.Equal(got, slices.Repeat([]impl.Ext{extX}, 1<<rate)) {
			t.Error("one coefficient at rate", rate, got)
		}
	}
}

func TestWordsAreWords(t *testing.T) {
	for n := 1; n <= maxWord; n *= 2 {
		for rate := 0; n<<rate <= maxWord; rate++ {
			for _, coefs := range someCoefs(n) {
				word := wordOf(t, coefs, rate)
				for lower := range rate + 1 {
					if !isWord(t, word, lower) {
						t.Error(n, "coefficients at rate", rate, "are none at", lower)
					}
				}
			}
		}
	}
}

// The last coefficient of n counts: where there is room for fewer, a word with it is none.
func TestWordsOfTooManyCoefficients(t *testing.T) {
	for n := 2; n <= maxWord; n *= 2 {
		for place := range n {
			coefs := make([]impl.Ext, n)
			coefs[place] = []impl.Ext{ext1, extX, {A: prime - 1}}[place%3]
			word := ntt(t, coefs)
			for rate := 0; n>>rate >= 1; rate++ {
				if got := isWord(t, word, rate); got != (place < n>>rate) {
					t.Fatal("coefficient", place, "of", n, "at rate", rate, got)
				}
			}
		}
	}
}

func TestChangedWordsAreNone(t *testing.T) {
	for n := 1; n <= maxWord/2; n *= 2 {
		for rate := 1; n<<rate <= maxWord; rate++ {
			word := wordOf(t, mixedExts(n), rate)
			for _, place := range []int{0, 1, n, len(word) / 2, len(word) - 1} {
				for _, by := range []impl.Ext{ext1, extX, {A: prime - 1, B: 3}} {
					changed := slices.Clone(word)
					changed[place%len(word)] = extAdd(changed[place%len(word)], by)
					if isWord(t, changed, rate) {
						t.Error("a word of", len(word), "at rate", rate, "changed at", place, "by", by)
					}
					if !isWord(t, changed, 0) {
						t.Error("any values are a word at rate 0", len(word), place)
					}
				}
			}
		}
	}
}

// Of as many values as 2 to the rate only one coefficient is left: they are all alike.
func TestWordsOfOneCoefficient(t *testing.T) {
	for rate := range maxRate + 1 {
		n := 1 << rate
		alike := slices.Repeat([]impl.Ext{{A: 5, B: 7}}, n)
		if !isWord(t, alike, rate) || !isWord(t, make([]impl.Ext, n), rate) {
			t.Error(n, "alike values")
		}
		for place := 0; n > 1 && place < n; place++ {
			other := slices.Clone(alike)
			other[place] = extX
			if isWord(t, other, rate) {
				t.Error(n, "values, one of them another, at", place)
			}
		}
	}
}

// plainFold is what the document says: (a + b) / 2 + r (a - b) / (2 y).
func plainFold(a, b, r, y impl.Ext) impl.Ext {
	two := elements(2)[0]
	even := extMul(extAdd(a, b), mustExt(impl.ExtInverse(two)))
	odd := extMul(extSub(a, b), mustExt(impl.ExtInverse(extMul(two, y))))
	return extAdd(even, extMul(r, odd))
}

func TestFoldPair(t *testing.T) {
	pairs := append(someExts(3), ext1, extX)
	for n := 2; n <= maxWord; n *= 2 {
		places := plainPlaces(n)
		for _, i := range []int{0, (n/2 - 1) / 3, n / 4, n/2 - 1} {
			for k, a := range pairs {
				b := pairs[len(pairs)-1-k]
				for _, r := range foldNumbers() {
					if got, code := impl.FoldPair(n, i, a, b, r); got != plainFold(a, b, r, places[i]) || code != impl.OK {
						t.Fatal("FoldPair", n, i, a, b, r, got, code)
					}
				}
			}
		}
	}
	// 3 + 5 y at 1 and -1, and at the last place there is
	if got := mustExt(impl.FoldPair(2, 0, elements(8)[0], elements(-2)[0], elements(10)[0])); got != elements(53)[0] {
		t.Error("by hand", got)
	}
	y := bigPow(must(impl.RootOf(9)), 255)
	if got := mustExt(impl.FoldPair(maxWord, 255, elements(3 + 5*y)[0], elements(3 - 5*y)[0], elements(10)[0])); got != elements(53)[0] {
		t.Error("by hand at the last place", got)
	}
}

func TestFoldWordIsFoldPairOfEachPlace(t *testing.T) {
	for n := 2; n <= maxWord; n *= 2 {
		for _, word := range someCoefs(n)[2:7] {
			for _, r := range foldNumbers() {
				for i, got := range foldedWord(t, word, r) {
					if want := mustExt(impl.FoldPair(n, i, word[i], word[i+n/2], r)); got != want {
						t.Fatal("place", i, "of", n, "folded by", r, got, want)
					}
				}
			}
		}
	}
}

func TestFoldedWordsAreWords(t *testing.T) {
	for n := 2; n <= maxWord; n *= 2 {
		for rate := 0; n<<rate <= maxWord; rate++ {
			for k, coefs := range someCoefs(n) {
				r := foldNumbers()[k%len(foldNumbers())]
				half := foldedWord(t, wordOf(t, coefs, rate), r)
				if want := wordOf(t, plainFoldedCoefs(coefs, r), rate); !slices.Equal(half, want) {
					t.Fatal(n, "coefficients at rate", rate, "folded by", r)
				}
				if !isWord(t, half, rate) {
					t.Fatal("a folded word of", n, "coefficients is none at rate", rate)
				}
			}
		}
	}
}

// Folded as often as it can be, a word of a table's coefficients has the table's value at the point in all its places.
func TestWordsFoldToTheTablesValue(t *testing.T) {
	for vars := range impl.MaxVars + 1 {
		for rate := range 4 {
			table, point := mixedExts(1<<vars), mixedExts(vars + 2)[2:]
			word := wordOf(t, coefsOf(t, table), rate)
			for _, r := range point {
				word = foldedWord(t, word, r)
			}
			if want := slices.Repeat([]impl.Ext{plainTableAt(table, point)}, 1<<rate); !slices.Equal(word, want) {
				t.Error(vars, "variables at rate", rate, word)
			}
		}
	}
}

func TestPolyAt(t *testing.T) {
	for _, n := range []int{0, 1, 2, 3, 5, 64, 100, maxWord, maxWord + 1, 1024} {
		for _, x := range append(foldNumbers(), someExts(0)...) {
			coefs := mixedExts(n)
			if got, code := impl.PolyAt(coefs, x); got != plainPolyAt(coefs, x) || code != impl.OK {
				t.Error(n, "coefficients at", x, got, code)
			}
		}
	}
	// 1 + x and 2 x squared, at x: 7 + x
	if got := mustExt(impl.PolyAt(elements(1, 1, 2), extX)); got != (impl.Ext{A: 7, B: 1}) {
		t.Error("by hand", got)
	}
	if got, want := mustExt(impl.PolyAt(mixedExts(impl.MaxList), extX)), plainPolyAt(mixedExts(impl.MaxList), extX); got != want {
		t.Error("MaxList coefficients", got, want)
	}
	for _, x := range someExts(5) {
		for _, none := range [][]impl.Ext{nil, {}} {
			if got, code := impl.PolyAt(none, x); got != ext0 || code != impl.OK {
				t.Error("no coefficient at", x, got, code)
			}
		}
	}
}

// Through values of a polynomial, as many as it has coefficients or more, goes the polynomial itself.
func TestLineThroughValuesOfAPolynomial(t *testing.T) {
	for n := 1; n <= 8; n++ {
		for many := 1; many <= n; many++ {
			coefs := mixedExts(many + n)[n:]
			values := make([]impl.Ext, n)
			for i := range values {
				values[i] = mustExt(impl.PolyAt(coefs, elements(i)[0]))
			}
			for _, x := range lineAts() {
				want := mustExt(impl.PolyAt(coefs, x))
				if got, code := impl.LineAt(values, x); got != want || code != impl.OK {
					t.Fatal(many, "coefficients by", n, "values at", x, got, want, code)
				}
			}
		}
	}
}
