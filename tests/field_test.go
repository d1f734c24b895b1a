package tests

import (
	"math"
	"math/big"
	"testing"

	"loop.example/g00348/impl"
)

// Promise 2.

func TestPrime(t *testing.T) {
	if impl.Prime != 1<<31-1<<24+1 || !big.NewInt(impl.Prime).ProbablyPrime(20) {
		t.Error(impl.Prime)
	}
}

func TestFieldOK(t *testing.T) {
	for _, a := range edgeNumbers {
		if !impl.FieldOK(a) {
			t.Error(a, "is a number of the field")
		}
	}
	for _, a := range wrongNumbers {
		if impl.FieldOK(a) {
			t.Error(a, "is none")
		}
	}
}

func TestFieldOperations(t *testing.T) {
	list := someNumbers(60)
	for _, a := range list {
		for _, b := range list {
			x, y := big.NewInt(int64(a)), big.NewInt(int64(b))
			if n, code := impl.Add(a, b); code != impl.OK || n != bigMod(new(big.Int).Add(x, y)) {
				t.Fatal("Add", a, b, n, code)
			}
			if n, code := impl.Sub(a, b); code != impl.OK || n != bigMod(new(big.Int).Sub(x, y)) {
				t.Fatal("Sub", a, b, n, code)
			}
			if n, code := impl.Mul(a, b); code != impl.OK || n != bigMod(new(big.Int).Mul(x, y)) {
				t.Fatal("Mul", a, b, n, code)
			}
		}
	}
}

func add(a, b int) int { return must(impl.Add(a, b)) }
func sub(a, b int) int { return must(impl.Sub(a, b)) }
func mul(a, b int) int { return must(impl.Mul(a, b)) }
func pow(a, n int) int { return must(impl.Pow(a, n)) }

func TestFieldLaws(t *testing.T) {
	list := someNumbers(15)
	for _, a := range list {
		if add(a, 0) != a || mul(a, 1) != a || mul(a, 0) != 0 || sub(a, a) != 0 || add(a, sub(0, a)) != 0 {
			t.Fatal("0 and 1", a)
		}
		for _, b := range list {
			if add(a, b) != add(b, a) || mul(a, b) != mul(b, a) || add(sub(a, b), b) != a || sub(a, b) != sub(0, sub(b, a)) {
				t.Fatal("two", a, b)
			}
			if mul(a, b) == 0 && a != 0 && b != 0 {
				t.Fatal("a product of 0", a, b)
			}
			for _, c := range list {
				if add(add(a, b), c) != add(a, add(b, c)) || mul(mul(a, b), c) != mul(a, mul(b, c)) || mul(a, add(b, c)) != add(mul(a, b), mul(a, c)) {
					t.Fatal("three", a, b, c)
				}
			}
		}
	}
}

func TestInverse(t *testing.T) {
	for _, a := range someNumbers(200) {
		n, code := impl.Inverse(a)
		if a == 0 {
			if n != 0 || code != impl.ErrZero {
				t.Error("0 has no inverse:", n, code)
			}
			continue
		}
		if code != impl.OK || !impl.FieldOK(n) || mul(a, n) != 1 || must(impl.Inverse(n)) != a {
			t.Error(a, n, code)
		}
	}
}

func TestPow(t *testing.T) {
	exponents := []int{
		0, 1, 2, 3, 4, 5, 6, 7, 8, 11, 15, 16, 31, 127, 255, 256, 1<<24 - 1, 1 << 24,
		prime - 3, prime - 2, prime - 1, prime, prime + 1, 1<<31 - 1, 1 << 31, 1<<32 - 1, 1 << 32, 1<<32 + 1,
		2 * (prime - 1), 1<<61 + 12345, 1 << 62, math.MaxInt - 1, math.MaxInt,
	}
	for _, a := range someNumbers(20) {
		for _, n := range exponents {
			if got, code := impl.Pow(a, n); code != impl.OK || got != bigPow(a, n) {
				t.Fatal(a, n, got, code)
			}
		}
	}
}

func TestPowersAddTheirExponents(t *testing.T) {
	d := draws(7)
	for _, a := range someNumbers(20) {
		if pow(a, 0) != 1 || pow(a, 1) != a {
			t.Fatal("the least exponents", a)
		}
		want := 1
		if a == 0 {
			want = 0
		}
		if pow(a, prime-1) != want {
			t.Fatal("to the prime less one", a)
		}
		for i := 0; i < 10; i++ {
			m, n := d.next()<<20, d.next()
			if pow(a, m+n) != mul(pow(a, m), pow(a, n)) {
				t.Fatal(a, m, n)
			}
		}
	}
}

func TestRootsOfUnity(t *testing.T) {
	for k := 0; k <= 24; k++ {
		r, code := impl.RootOf(k)
		if code != impl.OK || r != bigPow(3, 127<<(24-k)) {
			t.Error("RootOf", k, r, code)
		}
		if pow(r, 1<<k) != 1 {
			t.Error("order is above that of", k)
		}
		if k > 0 && pow(r, 1<<(k-1)) != prime-1 {
			t.Error("order is below that of", k)
		}
		if k > 0 && mul(r, r) != must(impl.RootOf(k-1)) {
			t.Error("not the root's square", k)
		}
	}
}

func TestNoRoots(t *testing.T) {
	for _, k := range []int{-1, -2, -24, -64, 25, 26, 31, 32, 63, 64, 256, 1 << 32, 1<<32 + 1, math.MaxInt, math.MinInt, math.MinInt + 24} {
		if n, code := impl.RootOf(k); n != 0 || code != impl.ErrRange {
			t.Error(k, n, code)
		}
	}
}

func TestFieldWrongNumbers(t *testing.T) {
	for _, bad := range wrongNumbers {
		for _, a := range append([]int{0, 1, prime - 1}, wrongNumbers...) {
			for name, call := range map[string]func(int, int) (int, int){"Add": impl.Add, "Sub": impl.Sub, "Mul": impl.Mul} {
				if n, code := call(bad, a); n != 0 || code != impl.ErrBad {
					t.Error(name, bad, a, n, code)
				}
				if n, code := call(a, bad); n != 0 || code != impl.ErrBad {
					t.Error(name, a, bad, n, code)
				}
			}
		}
		for _, n := range []int{0, 1, 5, math.MaxInt, -1, math.MinInt} {
			if got, code := impl.Pow(bad, n); got != 0 || code != impl.ErrBad {
				t.Error("Pow", bad, n, got, code)
			}
		}
		if n, code := impl.Inverse(bad); n != 0 || code != impl.ErrBad {
			t.Error("Inverse", bad, n, code)
		}
	}
}

func TestPowBelowZero(t *testing.T) {
	for _, a := range edgeNumbers {
		for _, n := range []int{-1, -2, -prime, 1 - prime, math.MinInt32, math.MinInt + 1, math.MinInt} {
			if got, code := impl.Pow(a, n); got != 0 || code != impl.ErrRange {
				t.Error(a, n, got, code)
			}
		}
	}
}

// numbersBut0 are n mixed ones.
func numbersBut0(n int) []int {
	d := draws(uint64(n) + 3)
	list := make([]int, 0, n)
	for len(list) < n {
		if a := d.next(); a != 0 {
			list = append(list, a)
		}
	}
	return list
}

func TestBatchInverse(t *testing.T) {
	for _, list := range [][]int{
		nil, {}, {1}, {prime - 1}, {2, 2, 2}, {prime - 1, 1, prime - 2, 2}, edgeNumbers[1:],
		numbersBut0(100), numbersBut0(impl.MaxList - 1), numbersBut0(impl.MaxList),
	} {
		got, code := impl.BatchInverse(list)
		if code != impl.OK || len(got) != len(list) {
			t.Fatal(len(list), len(got), code)
		}
		for i, a := range list {
			if got[i] != must(impl.Inverse(a)) {
				t.Fatal(len(list), i, a, got[i])
			}
		}
	}
}

// placed is a list of n ones with one other number at a place.
func placed(n, at, number int) []int {
	list := make([]int, n)
	for i := range list {
		list[i] = 1
	}
	list[at] = number
	return list
}

func TestBatchInverseFaults(t *testing.T) {
	long := impl.MaxList + 1
	both := placed(impl.MaxList, 0, 0)
	both[impl.MaxList-1] = prime
	cases := []struct {
		list []int
		code int
	}{
		{[]int{0}, impl.ErrZero},
		{[]int{1, 0}, impl.ErrZero},
		{[]int{0, 1, 0}, impl.ErrZero},
		{placed(impl.MaxList, 0, 0), impl.ErrZero},
		{placed(impl.MaxList, impl.MaxList-1, 0), impl.ErrZero},
		{placed(impl.MaxList, impl.MaxList-1, -1), impl.ErrBad},
		{[]int{0, prime}, impl.ErrBad},
		{[]int{-1, 0}, impl.ErrBad},
		{both, impl.ErrBad},
		{placed(long, 0, 1), impl.ErrLong},
		{placed(long, 0, 0), impl.ErrLong},
		{placed(long, 0, prime), impl.ErrLong},
		{placed(long, long-1, -1), impl.ErrLong},
		{make([]int, 3*impl.MaxList), impl.ErrLong},
		{make([]int, 65536+1), impl.ErrLong},
	}
	for _, bad := range wrongNumbers {
		cases = append(cases, struct {
			list []int
			code int
		}{[]int{1, bad, 2}, impl.ErrBad})
	}
	for i, c := range cases {
		if got, code := impl.BatchInverse(c.list); code != c.code || len(got) != 0 {
			t.Error(i, len(c.list), code, c.code, len(got))
		}
	}
}
