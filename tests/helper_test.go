package tests

import (
	"math"
	"math/big"

	"loop.example/g00348/impl"
)

const prime = impl.Prime

// edgeNumbers lie in the field: its ends, and where halves of 64-bit products or of Montgomery's form meet.
var edgeNumbers = []int{
	0, 1, 2, 3, 126, 127, 128, 65535, 65536, 65537,
	1<<24 - 1, 1 << 24, 1<<24 + 1, 1 << 30, 1<<30 + 1,
	(prime - 1) / 2, (prime + 1) / 2, 1<<31 - 1<<24 - 1, prime - 3, prime - 2, prime - 1,
}

// wrongNumbers lie outside of it. Some of them are numbers of the field if their higher bits are lost.
var wrongNumbers = []int{
	-1, -2, -prime, -prime + 1, prime, prime + 1, 2 * prime, 1 << 31, 1<<32 - 1, 1 << 32, 1<<32 + 1,
	1 << 62, math.MaxInt32 + 1, math.MinInt32, math.MaxInt - 1, math.MaxInt, math.MinInt, math.MinInt + 1,
}

// draws is a plain rule for numbers that look mixed and are the same in each run.
type draws uint64

func (d *draws) next() int {
	*d = *d*6364136223846793005 + 1442695040888963407
	return int((uint64(*d) >> 20) % prime)
}

// someNumbers are the edges and n mixed ones.
func someNumbers(n int) []int {
	d := draws(1)
	list := append([]int(nil), edgeNumbers...)
	for i := 0; i < n; i++ {
		list = append(list, d.next())
	}
	return list
}

func bigMod(x *big.Int) int {
	return int(new(big.Int).Mod(x, big.NewInt(prime)).Int64())
}

func bigPow(a, n int) int {
	return int(new(big.Int).Exp(big.NewInt(int64(a)), big.NewInt(int64(n)), big.NewInt(prime)).Int64())
}

// must is the number of a call that has to answer OK; what it gives else is no number of the field.
func must(n, code int) int {
	if code != impl.OK {
		return -1
	}
	return n
}

// mustExt is likewise of elements.
func mustExt(a impl.Ext, code int) impl.Ext {
	if code != impl.OK {
		return impl.Ext{A: -1, B: -1}
	}
	return a
}

// someExts are elements of the edges of both parts, and n mixed ones.
func someExts(n int) []impl.Ext {
	var list []impl.Ext
	edges := []int{0, 1, 2, 65536, (prime + 1) / 2, prime - 2, prime - 1}
	for _, a := range edges {
		for _, b := range edges {
			list = append(list, impl.Ext{A: a, B: b})
		}
	}
	return append(list, mixedExts(n)...)
}

func mixedExts(n int) []impl.Ext {
	d := draws(uint64(n) + 5)
	list := make([]impl.Ext, n)
	for i := range list {
		list[i] = impl.Ext{A: d.next(), B: d.next()}
	}
	return list
}

// wrongExts have a wrong A, a wrong B, or both.
func wrongExts() []impl.Ext {
	var list []impl.Ext
	for i, bad := range wrongNumbers {
		list = append(list, impl.Ext{A: bad}, impl.Ext{B: bad}, impl.Ext{A: bad, B: prime - 1}, impl.Ext{A: 1, B: bad},
			impl.Ext{A: bad, B: wrongNumbers[len(wrongNumbers)-1-i]})
	}
	return list
}
