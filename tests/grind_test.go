package tests

import (
	"math"
	"math/bits"
	"strings"
	"testing"

	"loop.example/g00348/impl"
)

// Promise 6: a nonce that is found does, and none below it.

func plainNonceDoes(state string, n, nonce int) bool {
	h := hashed(state, "grind", fourBytes(nonce))
	return bits.LeadingZeros32(uint32(h[0])<<24|uint32(h[1])<<16|uint32(h[2])<<8|uint32(h[3])) >= n
}

func checkNonce(t *testing.T, s impl.Source, n, nonce int) bool {
	t.Helper()
	ok, code := impl.CheckNonce(s, n, nonce)
	if code != impl.OK {
		t.Fatal("CheckNonce", n, nonce, code)
	}
	return ok
}

func TestGrindNonce(t *testing.T) {
	for n := 0; n <= impl.MaxGrind; n++ {
		for _, label := range []string{"", "a", "b", "c"} {
			s := taken(t, spongeNamed(t, label), "ground")
			nonce, code := impl.GrindNonce(s, n)
			if code != impl.OK || nonce < 0 || nonce >= impl.MaxNonces || !plainNonceDoes(s.State, n, nonce) || !checkNonce(t, s, n, nonce) {
				t.Fatal(n, "bits of", label, nonce, code)
			}
			for below := range nonce {
				if plainNonceDoes(s.State, n, below) || checkNonce(t, s, n, below) {
					t.Fatal(n, "bits of", label, "have", below, "below", nonce)
				}
			}
			for fewer := range n {
				if !checkNonce(t, s, fewer, nonce) {
					t.Error(nonce, "does for", n, "bits and not for", fewer)
				}
			}
		}
	}
}

// TestNoncesOfNoBits: each nonce does for none, and the least is 0.
func TestNoncesOfNoBits(t *testing.T) {
	for _, s := range rightSources() {
		if nonce, code := impl.GrindNonce(s, 0); nonce != 0 || code != impl.OK {
			t.Error("GrindNonce", nonce, code)
		}
		for _, nonce := range []int{0, 1, 255, 256, 65534, 65535} {
			if !checkNonce(t, s, 0, nonce) {
				t.Error("CheckNonce", nonce)
			}
		}
	}
}

// TestNoncesHangOnTheStateAlone: not on what the source has drawn, nor on how it draws.
func TestNoncesHangOnTheStateAlone(t *testing.T) {
	s := spongeNamed(t, "state")
	want, _ := impl.GrindNonce(s, 7)
	for _, other := range []impl.Source{withNumbers(s, 3, 5), withNumbers(s, allDraws, allDraws), withScript(s, mixedExts(4)), withNumbers(withScript(s, mixedExts(64)), 2, allDraws)} {
		if nonce, code := impl.GrindNonce(other, 7); nonce != want || code != impl.OK || !checkNonce(t, other, 7, want) {
			t.Error(other.At, other.Count, len(other.Script), "has", nonce, code, "is to have", want)
		}
	}
}

// TestEdgeNonces asks many states, so that each nonce does for some of them and for others does not.
func TestEdgeNonces(t *testing.T) {
	for _, nonce := range []int{0, 1, 256, 65535} {
		for _, n := range []int{1, 4, 7, 8, 9, 12} {
			does := 0
			for i := range 4 << n {
				s := impl.Source{State: hashed("state", fourBytes(i))}
				want := plainNonceDoes(s.State, n, nonce)
				if got := checkNonce(t, s, n, nonce); got != want {
					t.Fatal("nonce", nonce, "of", n, "bits", got)
				}
				if want {
					does++
				}
			}
			if does == 0 || does == 4<<n {
				t.Error("nonce", nonce, "of", n, "bits does for", does)
			}
		}
	}
}

var (
	wrongBits   = []int{-1, -2, -12, 13, 14, 32, 64, 1 << 32, math.MinInt, math.MaxInt}
	wrongNonces = []int{-1, -2, -65536, 65536, 65537, 131072, 1 << 32, 1<<32 + 1, math.MinInt, math.MaxInt}
)

func TestGrindFaults(t *testing.T) {
	grind := func(want int, s impl.Source, n int) {
		t.Helper()
		if nonce, code := impl.GrindNonce(s, n); nonce != 0 || code != want {
			t.Error("GrindNonce", n, nonce, code, "is to be", want)
		}
	}
	check := func(want int, s impl.Source, n, nonce int) {
		t.Helper()
		if ok, code := impl.CheckNonce(s, n, nonce); ok || code != want {
			t.Error("CheckNonce", n, nonce, ok, code, "is to be", want)
		}
	}
	for _, s := range wrongSources() {
		for _, n := range []int{0, 1, 12, 13, -1} {
			grind(impl.ErrBad, s, n)
			for _, nonce := range []int{0, 65535, 65536, -1} {
				check(impl.ErrBad, s, n, nonce)
			}
		}
	}
	for _, s := range []impl.Source{spongeNamed(t, "right"), withScript(spongeNamed(t, "right"), mixedExts(2))} {
		for _, n := range wrongBits {
			grind(impl.ErrRange, s, n)
			for _, nonce := range append([]int{0, 65535}, wrongNonces...) {
				check(impl.ErrRange, s, n, nonce)
			}
		}
		for _, nonce := range wrongNonces {
			for _, n := range []int{0, 1, 12} {
				check(impl.ErrRange, s, n, nonce)
			}
		}
	}
}

// Nobody has a state for which no nonce does, or the last one alone; so a copy of the program is asked whose hash lets
// no nonce do but 65535, and that one with states that begin with a byte 1.

const stingyHash = `package impl

func Keccak256(b []byte) string {
	h := []byte(strongKeccak256(b))
	if len(b) == 41 && string(b[32:37]) == "grind" {
		h[0], h[1] = 128, 0
		if b[0] == 1 && string(b[37:]) == "\x00\x00\xff\xff" {
			h[0] = 0
		}
	}
	return string(h)
}
`

func isStingy() bool {
	state := strings.Repeat("\x01", 32)
	last, one := hashed(state, "grind", fourBytes(65535)), hashed(state, "grind", fourBytes(1))
	return last[:2] == "\x00\x00" && one[:2] == "\x80\x00"
}

func TestNoncesOfAStingyHash(t *testing.T) {
	if isStingy() {
		t.Skip("this is the copy")
	}
	asksACopy(t, stingyHash, "TestLastNonceAndNone")
}

// TestLastNonceAndNone is for the copy with the stingy hash.
func TestLastNonceAndNone(t *testing.T) {
	last, none := impl.Source{State: strings.Repeat("\x01", 32)}, impl.Source{State: strings.Repeat("\x02", 32)}
	if !isStingy() || !checkNonce(t, last, 12, 65535) || checkNonce(t, last, 1, 65534) {
		t.Skip("the hash is the true one")
	}
	for _, n := range []int{1, 12} {
		if nonce, code := impl.GrindNonce(last, n); nonce != 65535 || code != impl.OK {
			t.Error(n, "bits of the last nonce", nonce, code)
		}
		if nonce, code := impl.GrindNonce(none, n); nonce != 0 || code != impl.ErrGrind {
			t.Error(n, "bits of no nonce", nonce, code)
		}
	}
	if nonce, code := impl.GrindNonce(none, 0); nonce != 0 || code != impl.OK {
		t.Error("no bits", nonce, code)
	}
}
