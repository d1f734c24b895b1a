package tests

import (
	"math"
	"math/big"
	"slices"
	"testing"

	"loop.example/g00348/impl"
)

// Promise 3.

func extAdd(a, b impl.Ext) impl.Ext     { return mustExt(impl.ExtAdd(a, b)) }
func extSub(a, b impl.Ext) impl.Ext     { return mustExt(impl.ExtSub(a, b)) }
func extMul(a, b impl.Ext) impl.Ext     { return mustExt(impl.ExtMul(a, b)) }
func extPow(a impl.Ext, n int) impl.Ext { return mustExt(impl.ExtPow(a, n)) }

var (
	ext0 = impl.Ext{}
	ext1 = impl.Ext{A: 1}
	extX = impl.Ext{B: 1}
)

// bigProduct is a times b by the rule of the document, with numbers of any length.
func bigProduct(a, b impl.Ext) impl.Ext {
	of := func(m, n, factor int) *big.Int {
		p := new(big.Int).Mul(big.NewInt(int64(m)), big.NewInt(int64(n)))
		return p.Mul(p, big.NewInt(int64(factor)))
	}
	return impl.Ext{
		A: bigMod(new(big.Int).Add(of(a.A, b.A, 1), of(a.B, b.B, 3))),
		B: bigMod(new(big.Int).Add(of(a.A, b.B, 1), of(a.B, b.A, 1))),
	}
}

func TestExtOK(t *testing.T) {
	for _, a := range append(someExts(50), ext0, extX) {
		if !impl.ExtOK(a) {
			t.Error(a, "is an element")
		}
	}
	for _, a := range wrongExts() {
		if impl.ExtOK(a) {
			t.Error(a, "is none")
		}
	}
}

func TestXSquaredIsThree(t *testing.T) {
	if extMul(extX, extX) != (impl.Ext{A: 3}) || extPow(extX, 2) != (impl.Ext{A: 3}) || extPow(extX, 3) != (impl.Ext{B: 3}) {
		t.Error(impl.ExtMul(extX, extX))
	}
}

func TestExtOperations(t *testing.T) {
	list := someExts(60)
	for _, a := range list {
		for _, b := range list {
			if s, code := impl.ExtAdd(a, b); code != impl.OK || s != (impl.Ext{A: add(a.A, b.A), B: add(a.B, b.B)}) {
				t.Fatal("ExtAdd", a, b, s, code)
			}
			if s, code := impl.ExtSub(a, b); code != impl.OK || s != (impl.Ext{A: sub(a.A, b.A), B: sub(a.B, b.B)}) {
				t.Fatal("ExtSub", a, b, s, code)
			}
			if s, code := impl.ExtMul(a, b); code != impl.OK || s != bigProduct(a, b) {
				t.Fatal("ExtMul", a, b, s, code)
			}
		}
	}
}

func TestNumbersAreElements(t *testing.T) {
	for _, a := range edgeNumbers {
		for _, b := range edgeNumbers {
			x, y := impl.Ext{A: a}, impl.Ext{A: b}
			if extAdd(x, y) != (impl.Ext{A: add(a, b)}) || extSub(x, y) != (impl.Ext{A: sub(a, b)}) || extMul(x, y) != (impl.Ext{A: mul(a, b)}) {
				t.Fatal(a, b)
			}
		}
	}
}

func TestExtLaws(t *testing.T) {
	list := append(mixedExts(12), ext0, ext1, extX, impl.Ext{A: prime - 1, B: prime - 1}, impl.Ext{A: prime - 1}, impl.Ext{B: prime - 1}, impl.Ext{A: prime - 1, B: 1})
	for _, a := range list {
		if extAdd(a, ext0) != a || extMul(a, ext1) != a || extMul(a, ext0) != ext0 || extSub(a, a) != ext0 || extAdd(a, extSub(ext0, a)) != ext0 {
			t.Fatal("0 and 1", a)
		}
		for _, b := range list {
			if extAdd(a, b) != extAdd(b, a) || extMul(a, b) != extMul(b, a) || extAdd(extSub(a, b), b) != a || extSub(a, b) != extSub(ext0, extSub(b, a)) {
				t.Fatal("two", a, b)
			}
			if extMul(a, b) == ext0 && a != ext0 && b != ext0 {
				t.Fatal("a product of 0", a, b)
			}
			for _, c := range list {
				if extAdd(extAdd(a, b), c) != extAdd(a, extAdd(b, c)) || extMul(extMul(a, b), c) != extMul(a, extMul(b, c)) || extMul(a, extAdd(b, c)) != extAdd(extMul(a, b), extMul(a, c)) {
					t.Fatal("three", a, b, c)
				}
			}
		}
	}
}

func TestExtInverse(t *testing.T) {
	for _, a := range someExts(300) {
		n, code := impl.ExtInverse(a)
		if a == ext0 {
			if n != ext0 || code != impl.ErrZero {
				t.Error("0 has no inverse:", n, code)
			}
			continue
		}
		if code != impl.OK || !impl.ExtOK(n) || extMul(a, n) != ext1 || mustExt(impl.ExtInverse(n)) != a {
			t.Error(a, n, code)
		}
	}
	for _, a := range numbersBut0(20) {
		if mustExt(impl.ExtInverse(impl.Ext{A: a})) != (impl.Ext{A: must(impl.Inverse(a))}) {
			t.Error("the inverse of a number", a)
		}
	}
}

func TestExtPow(t *testing.T) {
	for _, a := range someExts(10) {
		want := ext1
		for n := 0; n < 70; n++ {
			if got, code := impl.ExtPow(a, n); code != impl.OK || got != want {
				t.Fatal(a, n, got, code)
			}
			want = bigProduct(want, a)
		}
		conjugate := impl.Ext{A: a.A, B: sub(0, a.B)}
		if extPow(a, prime) != conjugate {
			t.Fatal("to the prime", a)
		}
		if extPow(a, prime+1) != (impl.Ext{A: must(impl.Norm(a))}) {
			t.Fatal("to the prime and one", a)
		}
	}
}

// There are Prime squared elements: each but 0 to as many less one is 1.
func TestExtGreatPowers(t *testing.T) {
	exponents := []int{0, 1, 1<<31 - 1, 1 << 32, 1<<61 + 12345, prime * prime, math.MaxInt / 2}
	for _, a := range someExts(10) {
		want := ext1
		if a == ext0 {
			want = ext0
		}
		if extPow(a, prime*prime-1) != want || extPow(a, math.MaxInt-1) != extPow(extPow(a, math.MaxInt/2), 2) {
			t.Fatal(a)
		}
		if extPow(a, math.MaxInt) != extMul(extPow(a, math.MaxInt-1), a) || extPow(a, math.MaxInt) != extPow(a, math.MaxInt-(prime*prime-1)) {
			t.Fatal("the greatest int", a)
		}
		for _, m := range exponents {
			for _, n := range exponents {
				if m <= math.MaxInt-n && extPow(a, m+n) != extMul(extPow(a, m), extPow(a, n)) {
					t.Fatal("a sum of exponents", a, m, n)
				}
			}
		}
	}
	for _, a := range edgeNumbers {
		if extPow(impl.Ext{A: a}, math.MaxInt) != (impl.Ext{A: bigPow(a, math.MaxInt)}) {
			t.Error("a number's power", a)
		}
	}
}

func TestExtPowBelowZero(t *testing.T) {
	for _, a := range []impl.Ext{ext0, ext1, extX, {A: prime - 1, B: prime - 1}} {
		for _, n := range []int{-1, -2, 1 - prime, math.MinInt32, math.MinInt + 1, math.MinInt} {
			if got, code := impl.ExtPow(a, n); got != ext0 || code != impl.ErrRange {
				t.Error(a, n, got, code)
			}
		}
	}
}

func TestNorm(t *testing.T) {
	list := someExts(40)
	for _, a := range list {
		square := func(n, factor int) *big.Int {
			p := new(big.Int).Mul(big.NewInt(int64(n)), big.NewInt(int64(n)))
			return p.Mul(p, big.NewInt(int64(factor)))
		}
		n, code := impl.Norm(a)
		if code != impl.OK || n != bigMod(new(big.Int).Sub(square(a.A, 1), square(a.B, 3))) {
			t.Fatal(a, n, code)
		}
		if (n == 0) != (a == ext0) {
			t.Fatal("0 alone has the norm 0", a)
		}
		for _, b := range list {
			if must(impl.Norm(extMul(a, b))) != mul(n, must(impl.Norm(b))) {
				t.Fatal("a product's norm", a, b)
			}
		}
	}
}

func TestExtWrongElements(t *testing.T) {
	for _, bad := range wrongExts() {
		for _, a := range append([]impl.Ext{ext0, ext1, {A: prime - 1, B: prime - 1}}, wrongExts()[:5]...) {
			for name, call := range map[string]func(a, b impl.Ext) (impl.Ext, int){"ExtAdd": impl.ExtAdd, "ExtSub": impl.ExtSub, "ExtMul": impl.ExtMul} {
				if s, code := call(bad, a); s != ext0 || code != impl.ErrBad {
					t.Error(name, bad, a, s, code)
				}
				if s, code := call(a, bad); s != ext0 || code != impl.ErrBad {
					t.Error(name, a, bad, s, code)
				}
			}
		}
		for _, n := range []int{0, 1, 5, math.MaxInt, -1, math.MinInt} {
			if s, code := impl.ExtPow(bad, n); s != ext0 || code != impl.ErrBad {
				t.Error("ExtPow", bad, n, s, code)
			}
		}
		if s, code := impl.ExtInverse(bad); s != ext0 || code != impl.ErrBad {
			t.Error("ExtInverse", bad, s, code)
		}
		if n, code := impl.Norm(bad); n != 0 || code != impl.ErrBad {
			t.Error("Norm", bad, n, code)
		}
	}
}

// bytesOf is what the document says of elements' bytes.
func bytesOf(list []impl.Ext) []byte {
	var b []byte
	for _, a := range list {
		for _, n := range []int{a.A, a.B} {
			b = append(b, byte(n/(1<<24)), byte(n/65536%256), byte(n/256%256), byte(n%256))
		}
	}
	return b
}

func TestElementsAreReadBack(t *testing.T) {
	for _, list := range [][]impl.Ext{
		nil, {}, {ext0}, {ext1}, {extX, extX}, {{A: prime - 1, B: prime - 1}}, {{A: 0x01020304, B: 0x05060708}},
		someExts(100), mixedExts(impl.MaxList - 1), mixedExts(impl.MaxList), make([]impl.Ext, impl.MaxList),
	} {
		b, code := impl.ExtBytes(list)
		if code != impl.OK || !slices.Equal(b, bytesOf(list)) {
			t.Fatal("ExtBytes", len(list), len(b), code)
		}
		back, code := impl.ReadExts(b)
		if code != impl.OK || !slices.Equal(back, list) {
			t.Fatal("ReadExts", len(list), len(back), code)
		}
	}
}

// extsWith are n ones with one other element at a place.
func extsWith(n, at int, a impl.Ext) []impl.Ext {
	list := make([]impl.Ext, n)
	for i := range list {
		list[i] = ext1
	}
	list[at] = a
	return list
}

func TestExtBytesFaults(t *testing.T) {
	long := impl.MaxList + 1
	for _, c := range []struct {
		list []impl.Ext
		code int
	}{
		{[]impl.Ext{{A: prime}}, impl.ErrBad},
		{extsWith(impl.MaxList, 0, impl.Ext{B: -1}), impl.ErrBad},
		{extsWith(impl.MaxList, impl.MaxList-1, impl.Ext{B: prime}), impl.ErrBad},
		{mixedExts(long), impl.ErrLong},
		{extsWith(long, 0, impl.Ext{A: prime}), impl.ErrLong},
		{make([]impl.Ext, 3*impl.MaxList), impl.ErrLong},
	} {
		if b, code := impl.ExtBytes(c.list); len(b) != 0 || code != c.code {
			t.Error(len(c.list), len(b), code, c.code)
		}
	}
	for _, bad := range wrongExts() {
		if b, code := impl.ExtBytes([]impl.Ext{ext1, bad, ext0}); len(b) != 0 || code != impl.ErrBad {
			t.Error(bad, b, code)
		}
	}
}

func TestCutAndDrawnOutBytes(t *testing.T) {
	whole := bytesOf(mixedExts(3))
	for n := 0; n <= len(whole); n++ {
		list, code := impl.ReadExts(whole[:n])
		if n%8 == 0 && (code != impl.OK || len(list) != n/8) || n%8 != 0 && (code != impl.ErrForm || len(list) != 0) {
			t.Error("cut to", n, len(list), code)
		}
	}
	for n := 1; n < 8; n++ {
		if list, code := impl.ReadExts(append(slices.Clone(whole), make([]byte, n)...)); code != impl.ErrForm || len(list) != 0 {
			t.Error("drawn out by", n, len(list), code)
		}
	}
}

func TestReadExtsFaults(t *testing.T) {
	word := func(n int) []byte { return []byte{byte(n >> 24), byte(n >> 16), byte(n >> 8), byte(n)} }
	for _, n := range []int{prime, prime + 1, 1<<31 - 1, 1 << 31, 1<<32 - 1} {
		for place := 0; place < 4; place++ {
			b := bytesOf(mixedExts(2))
			copy(b[4*place:], word(n))
			if list, code := impl.ReadExts(b); code != impl.ErrForm || len(list) != 0 {
				t.Error("a number that is none", n, place, list, code)
			}
		}
	}
	most := 8 * impl.MaxList
	bad := func(n int) []byte {
		b := make([]byte, n)
		b[n-1-(n-1)%4] = 255
		return b
	}
	for _, c := range []struct {
		b    []byte
		code int
	}{
		{make([]byte, most-1), impl.ErrForm},
		{make([]byte, most+1), impl.ErrForm},
		{make([]byte, most+7), impl.ErrForm},
		{make([]byte, most+8), impl.ErrMany},
		{bytesOf(mixedExts(impl.MaxList + 1)), impl.ErrMany},
		{bad(most + 8), impl.ErrForm},
		{make([]byte, impl.MaxText), impl.ErrMany},
		{make([]byte, impl.MaxText-1), impl.ErrForm},
		{bad(impl.MaxText), impl.ErrForm},
		{make([]byte, impl.MaxText+1), impl.ErrLong},
		{make([]byte, impl.MaxText+8), impl.ErrLong},
		{bad(impl.MaxText + 8), impl.ErrLong},
	} {
		if list, code := impl.ReadExts(c.b); code != c.code || len(list) != 0 {
			t.Error(len(c.b), len(list), code, c.code)
		}
	}
}

func TestExtDot(t *testing.T) {
	for _, n := range []int{0, 1, 2, 3, 100, impl.MaxList} {
		a, b := mixedExts(n), someExts(n)[:n]
		want := ext0
		for i := range a {
			want = extAdd(want, bigProduct(a[i], b[i]))
		}
		if got, code := impl.ExtDot(a, b); code != impl.OK || got != want {
			t.Error(n, got, code)
		}
		if got, code := impl.ExtDot(b, a); code != impl.OK || got != want {
			t.Error(n, "turned about", got, code)
		}
	}
	most := slices.Repeat([]impl.Ext{{A: prime - 1, B: prime - 1}}, impl.MaxList)
	if got := mustExt(impl.ExtDot(most, most)); got != (impl.Ext{A: 4 * impl.MaxList, B: 2 * impl.MaxList}) {
		t.Error("the greatest elements", got)
	}
	if got, code := impl.ExtDot(nil, []impl.Ext{}); got != ext0 || code != impl.OK {
		t.Error("nil and an empty list", got, code)
	}
}

func TestExtDotFaults(t *testing.T) {
	long, bad := impl.MaxList+1, impl.Ext{B: prime}
	for i, c := range []struct {
		a, b []impl.Ext
		code int
	}{
		{[]impl.Ext{ext1}, nil, impl.ErrSize},
		{mixedExts(3), mixedExts(2), impl.ErrSize},
		{mixedExts(impl.MaxList - 1), mixedExts(impl.MaxList), impl.ErrSize},
		{[]impl.Ext{bad}, []impl.Ext{ext1}, impl.ErrBad},
		{[]impl.Ext{bad}, nil, impl.ErrBad},
		{mixedExts(2), []impl.Ext{ext1, ext1, bad}, impl.ErrBad},
		{extsWith(5, 4, bad), mixedExts(2), impl.ErrBad},
		{mixedExts(long), mixedExts(long), impl.ErrLong},
		{mixedExts(long), nil, impl.ErrLong},
		{nil, mixedExts(long), impl.ErrLong},
		{[]impl.Ext{bad}, mixedExts(long), impl.ErrLong},
		{extsWith(long, 0, bad), mixedExts(2), impl.ErrLong},
	} {
		if got, code := impl.ExtDot(c.a, c.b); got != ext0 || code != c.code {
			t.Error(i, got, code, c.code)
		}
	}
	for _, bad := range wrongExts() {
		if got, code := impl.ExtDot([]impl.Ext{bad, ext1}, []impl.Ext{ext0, ext1}); got != ext0 || code != impl.ErrBad {
			t.Error(bad, got, code)
		}
	}
}
