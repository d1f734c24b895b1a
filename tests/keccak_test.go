package tests

import (
	"bytes"
	"crypto/sha3"
	"encoding/hex"
	"math"
	"math/bits"
	"slices"
	"strings"
	"testing"

	"loop.example/g00348/impl"
)

// Promise 4.

// mixedBytes are n bytes, others for each n.
func mixedBytes(n int) []byte {
	d := draws(uint64(n) + 9)
	b := make([]byte, n)
	for i := range b {
		b[i] = byte(d.next())
	}
	return b
}

// messageLengths are the edges of blocks, the longest message, and some between.
var messageLengths = []int{
	0, 1, 2, 7, 8, 9, 31, 32, 33, 134, 135, 136, 137, 200, 270, 271, 272, 273, 407, 408, 409, 1000,
	481*136 - 1, 481 * 136, impl.MaxText - 1, impl.MaxText,
}

func permute(t *testing.T, state []byte) []byte {
	t.Helper()
	x, code := impl.Permute(string(state))
	if code != impl.OK || len(x) != impl.StateSize {
		t.Fatal("Permute of a state", len(x), code)
	}
	return []byte(x)
}

// spongeOf is what the permutation makes of the blocks of a message with a first mark behind it.
func spongeOf(t *testing.T, message []byte, mark byte) string {
	t.Helper()
	filled := append(slices.Clone(message), mark)
	for len(filled)%136 != 0 {
		filled = append(filled, 0)
	}
	filled[len(filled)-1] |= 0x80
	state := make([]byte, 200)
	for ; len(filled) > 0; filled = filled[136:] {
		for i := range 136 {
			state[i] ^= filled[i]
		}
		state = permute(t, state)
	}
	return string(state[:32])
}

func hashText(t *testing.T, h string) string {
	t.Helper()
	text, code := impl.HashText(h)
	if code != impl.OK {
		t.Fatal("HashText", len(h), code)
	}
	return text
}

func TestKeccakSizes(t *testing.T) {
	if impl.HashSize != 32 || impl.StateSize != 200 || impl.Rate != 136 {
		t.Error(impl.HashSize, impl.StateSize, impl.Rate)
	}
}

// ruledPermutation is the permutation with its shifts and constants made by their rules: shifts are the sums of
// 1, 2, 3 .. along a walk through the lanes, bits of constants those of a register of eight bits.
func ruledPermutation(state []byte) []byte {
	var a [5][5]uint64
	for i, c := range state {
		a[i/8%5][i/40] |= uint64(c) << (i % 8 * 8)
	}
	register := 1
	for range 24 {
		var columns [5]uint64
		for x := range 5 {
			columns[x] = a[x][0] ^ a[x][1] ^ a[x][2] ^ a[x][3] ^ a[x][4]
		}
		for x := range 5 {
			for y := range 5 {
				a[x][y] ^= columns[(x+4)%5] ^ bits.RotateLeft64(columns[(x+1)%5], 1)
			}
		}
		x, y, carried := 1, 0, a[1][0]
		for step := 1; step <= 24; step++ {
			x, y = y, (2*x+3*y)%5
			a[x][y], carried = bits.RotateLeft64(carried, step*(step+1)/2), a[x][y]
		}
		for y := range 5 {
			row := [5]uint64{a[0][y], a[1][y], a[2][y], a[3][y], a[4][y]}
			for x := range 5 {
				a[x][y] = row[x] ^ (^row[(x+1)%5] & row[(x+2)%5])
			}
		}
		for j := range 7 {
			a[0][0] ^= uint64(register&1) << (1<<j - 1)
			register <<= 1
			if register >= 256 {
				register ^= 0x171
			}
		}
	}
	permuted := make([]byte, len(state))
	for i := range permuted {
		permuted[i] = byte(a[i/8%5][i/40] >> (i % 8 * 8))
	}
	return permuted
}

func TestPermute(t *testing.T) {
	nought := permute(t, make([]byte, 200))
	if hex.EncodeToString(nought[:40]) != "e7dde140798f25f18a47c033f9ccd584eea95aa61e2698d54d49806f304715bd57d05362054e288b" {
		t.Error("of noughts:", hex.EncodeToString(nought))
	}
	states := [][]byte{make([]byte, 200), bytes.Repeat([]byte{255}, 200), bytes.Repeat([]byte{0x80}, 200), nought}
	for bit := range 1600 {
		state := make([]byte, 200)
		state[bit/8] = 1 << (bit % 8)
		states = append(states, state)
	}
	for i := range 50 {
		states = append(states, mixedBytes(200 + i)[i:])
	}
	for i, state := range states {
		if !bytes.Equal(permute(t, state), ruledPermutation(state)) {
			t.Fatal("state", i)
		}
	}
}

// One state leads to each: no two of these may come to one.
func TestPermutationIsOneToOne(t *testing.T) {
	seen := map[string]bool{}
	state := make([]byte, 200)
	for range 300 {
		state = permute(t, state)
		seen[string(state)] = true
	}
	if len(seen) != 300 {
		t.Error(len(seen), "states of 300")
	}
}

func TestPermuteFaults(t *testing.T) {
	for _, n := range []int{0, 1, 8, 25, 32, 135, 136, 192, 199, 201, 208, 400, 4096, impl.MaxText - 1, impl.MaxText} {
		if x, code := impl.Permute(strings.Repeat("\x01", n)); x != "" || code != impl.ErrSize {
			t.Error(n, len(x), code)
		}
	}
	for _, n := range []int{impl.MaxText + 1, 2 * impl.MaxText} {
		if x, code := impl.Permute(strings.Repeat("\x01", n)); x != "" || code != impl.ErrLong {
			t.Error(n, len(x), code)
		}
	}
}

func TestHashesThatAreKnown(t *testing.T) {
	for message, want := range map[string]string{
		"":        "c5d2460186f7233c927e7db2dcc703c0e500b653ca82273b7bfad8045d85a470",
		"abc":     "4e03657aea45a94fc7d47ba826c8d667c0d1e6e33a64a036ec44f58fa12d6c45",
		"testing": "5f16f4c7f149ac4f9510d9cf8cf384038ad348b3bcdc01915f95de12df9d1b02",
		"The quick brown fox jumps over the lazy dog": "4d741b6f1eb29cb2a9b9911c82f56fa8d73b04959d3d9d222895df6c0b28aa15",
	} {
		if got := hashText(t, impl.Keccak256([]byte(message))); got != want {
			t.Error(message, got)
		}
	}
}

// The library's hash is of the same blocks, but for its first mark: so the test's sponge of the permutation is right.
func TestSpongeOfThePermutation(t *testing.T) {
	for _, n := range messageLengths {
		message := mixedBytes(n)
		want := sha3.Sum256(message)
		if spongeOf(t, message, 6) != string(want[:]) {
			t.Fatal("a message of", n)
		}
	}
}

func TestHashIsOfTheBlocks(t *testing.T) {
	lengths := slices.Clone(messageLengths)
	for n := range 420 {
		lengths = append(lengths, n)
	}
	for _, n := range lengths {
		for _, message := range [][]byte{mixedBytes(n), make([]byte, n), bytes.Repeat([]byte{255}, n)} {
			got := impl.Keccak256(message)
			if len(got) != impl.HashSize || got != spongeOf(t, message, 1) {
				t.Fatal("a message of", n)
			}
		}
	}
}

func TestHashOfWholeBlocks(t *testing.T) {
	filled := append(make([]byte, 135), 0x81)
	state := permute(t, append(slices.Clone(filled), make([]byte, 64)...))
	if impl.Keccak256(make([]byte, 135)) != string(state[:32]) {
		t.Error("135 bytes have both marks in one byte")
	}
	if impl.Keccak256(filled) == impl.Keccak256(make([]byte, 135)) {
		t.Error("136 bytes have a block more behind them")
	}
	state = permute(t, make([]byte, 200))
	state[0] ^= 1
	state[135] ^= 0x80
	if impl.Keccak256(make([]byte, 136)) != string(permute(t, state)[:32]) {
		t.Error("a block of marks alone")
	}
}

func TestHashHangsOnEachByte(t *testing.T) {
	seen := map[string]int{}
	for n := range 300 {
		seen[impl.Keccak256(make([]byte, n))]++
	}
	message := mixedBytes(300)
	for i := range message {
		message[i] ^= 1
		seen[impl.Keccak256(message)]++
		message[i] ^= 0x81
		seen[impl.Keccak256(message)]++
		message[i] ^= 0x80
	}
	if len(seen) != 900 {
		t.Error(len(seen), "hashes of 900 messages")
	}
}

func TestHashOfNil(t *testing.T) {
	if impl.Keccak256(nil) != impl.Keccak256([]byte{}) || len(impl.Keccak256(nil)) != 32 {
		t.Error("nil is the empty message")
	}
}

func TestHashOfTooLongMessage(t *testing.T) {
	if len(impl.Keccak256(make([]byte, impl.MaxText))) != 32 {
		t.Error("MaxText bytes have a hash")
	}
	for _, n := range []int{impl.MaxText + 1, impl.MaxText + 136, 3 * impl.MaxText} {
		if h := impl.Keccak256(make([]byte, n)); h != "" {
			t.Error(n, h)
		}
	}
}

func TestHashText(t *testing.T) {
	for from := range 256 {
		h := make([]byte, 32)
		for i := range h {
			h[i] = byte(from + 37*i)
		}
		if got, code := impl.HashText(string(h)); got != hex.EncodeToString(h) || code != impl.OK {
			t.Error(h, got, code)
		}
	}
	if got := hashText(t, "\x00\x01\x09\x0a\x0f\x10\x90\x99\x9a\xa0\xa9\xaa\xf0\xff"+strings.Repeat("\xbc", 18)); got != "0001090a0f1090999aa0a9aaf0ff"+strings.Repeat("bc", 18) {
		t.Error(got)
	}
}

func TestHashTextFaults(t *testing.T) {
	for _, n := range []int{0, 1, 16, 31, 33, 64, 200, impl.MaxText} {
		if got, code := impl.HashText(strings.Repeat("a", n)); got != "" || code != impl.ErrSize {
			t.Error(n, got, code)
		}
	}
	if got, code := impl.HashText(strings.Repeat("a", impl.MaxText+1)); got != "" || code != impl.ErrLong {
		t.Error(len(got), code)
	}
}

func TestKeccakCalls(t *testing.T) {
	for n := 0; n <= impl.MaxText; n++ {
		blocks := 1
		for room := 135; room < n; room += 136 {
			blocks++
		}
		if got, code := impl.KeccakCalls(n); got != blocks || code != impl.OK {
			t.Fatal(n, got, code)
		}
	}
	for n, want := range map[int]int{0: 1, 1: 1, 134: 1, 135: 1, 136: 2, 137: 2, 271: 2, 272: 3, impl.MaxText: 482} {
		if got := must(impl.KeccakCalls(n)); got != want {
			t.Error(n, got)
		}
	}
}

func TestKeccakCallsFaults(t *testing.T) {
	for _, n := range []int{-1, -2, -136, -impl.MaxText, impl.MaxText + 1, impl.MaxText + 2, 1 << 32, math.MaxInt - 1, math.MaxInt, math.MinInt + 1, math.MinInt} {
		if got, code := impl.KeccakCalls(n); got != 0 || code != impl.ErrRange {
			t.Error(n, got, code)
		}
	}
}
