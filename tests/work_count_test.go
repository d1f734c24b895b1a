package tests

import (
	"strconv"
	"testing"

	"loop.example/g00348/impl"
)

// Promise 16, of how often Verify does the permutation: that is not to be seen from outside, so a copy of the program is asked which counts.

// The copy tells its count where the program tells that a text is no state.
const countingPermutation = `package impl

import "strconv"

var permutations int

func (s lanes) permuted() lanes {
	permutations++
	return s.permutedUncounted()
}

func Permute(state string) (string, int) {
	if state == "count" {
		return strconv.Itoa(permutations), OK
	}
	return permuteUncounted(state)
}
`

func isCounting() bool {
	_, code := impl.Permute("count")
	return code == impl.OK
}

func permutations(t *testing.T) int {
	t.Helper()
	text, code := impl.Permute("count")
	n, err := strconv.Atoi(text)
	if code != impl.OK || err != nil {
		t.Fatal("the count is", text, code)
	}
	return n
}

func TestWorkOfACountingCopy(t *testing.T) {
	if isCounting() {
		t.Skip("this is the copy")
	}
	renamed := map[string]string{"permuted": "permutedUncounted", "Permute": "permuteUncounted"}
	asksACopyWith(t, renamed, countingPermutation, "TestVerifyDoesItsWork")
}

// doesItsWork wants a proof to be accepted by as many permutations as WorkOf tells.
func doesItsWork(t *testing.T, a proveAsked) {
	t.Helper()
	right := shownOf(t, a)
	want := workOf(t, a.s, a.set)
	before := permutations(t)
	right.asksCode(t, impl.OK)
	if got := permutations(t) - before; got != want {
		t.Fatal("Verify of", a.s.Rows, a.s.Cols, a.s.Publics, a.set, "does", got, "permutations, is to do", want)
	}
}

// TestVerifyDoesItsWork is for the copy that counts.
func TestVerifyDoesItsWork(t *testing.T) {
	if !isCounting() {
		t.Skip("nothing is counted")
	}
	before := permutations(t)
	hashed("a block of its own")
	hashed(string(make([]byte, 135)), string(make([]byte, 1)))
	if got := permutations(t) - before; got != 3 {
		t.Fatal("three blocks are counted as", got)
	}
	eachWork(func(a proveAsked) { doesItsWork(t, a) })
}
