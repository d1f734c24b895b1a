package tests

import (
	"fmt"
	"math"
	"slices"
	"strings"
	"testing"

	"loop.example/g00348/impl"
)

// Promise 5. What two ways up that differ have in common is tested in collision_test.go.

const tooLong = impl.MaxText + 1

var (
	treeSizes   = []int{1, 2, 4, 8, 16, 32, 64, 128, 256}
	noTreeSizes = []int{0, -1, -2, -4, -256, 3, 5, 6, 7, 9, 12, 255, 257, 384, 511, 512, 1024, 4096, 1 << 32, 1 << 62, math.MaxInt, math.MinInt, math.MinInt + 1}
)

// mixedLeaves are n leaves of all lengths.
func mixedLeaves(n int) []string {
	b := mixedBytes(64 * n)
	leaves := make([]string, n)
	for i := range leaves {
		leaves[i] = string(b[64*i:][:(i*29+n)%65])
	}
	return leaves
}

func hashed(texts ...string) string { return impl.Keccak256([]byte(strings.Join(texts, ""))) }

// plainRoot is a tree's root by halves.
func plainRoot(leaves []string) string {
	if len(leaves) == 1 {
		return hashed("\x00", leaves[0])
	}
	half := len(leaves) / 2
	return hashed("\x01", plainRoot(leaves[:half]), plainRoot(leaves[half:]))
}

// plainPath is the roots of those halves that do not have place i, the least one first.
func plainPath(leaves []string, i int) []string {
	half := len(leaves) / 2
	switch {
	case half == 0:
		return nil
	case i < half:
		return append(plainPath(leaves[:half], i), plainRoot(leaves[half:]))
	}
	return append(plainPath(leaves[half:], i-half), plainRoot(leaves[:half]))
}

func edgePlaces(n int) []int {
	places := []int{0, 1, n/2 - 1, n / 2, n/2 + 1, n / 3, n - 2, n - 1}
	places = slices.DeleteFunc(places, func(i int) bool { return i < 0 || i >= n })
	slices.Sort(places)
	return slices.Compact(places)
}

func pathOf(t *testing.T, leaves []string, i int) []string {
	t.Helper()
	path, code := impl.MerklePath(leaves, i)
	if code != impl.OK {
		t.Fatal("MerklePath of", len(leaves), "leaves at", i, code)
	}
	return path
}

func leads(t *testing.T, root string, n, i int, leaf string, path []string) bool {
	t.Helper()
	ok, code := impl.CheckPath(root, n, i, leaf, path)
	if code != impl.OK {
		t.Fatal("CheckPath of", n, "leaves at", i, code)
	}
	return ok
}

func turned(text string, bit int) string {
	b := []byte(text)
	b[bit/8] ^= 1 << (bit % 8)
	return string(b)
}

func with(list []string, at int, text string) []string {
	list = slices.Clone(list)
	list[at] = text
	return list
}

func TestTreeSizes(t *testing.T) {
	if impl.MaxLeaves != 256 || impl.MaxLeaf != 64 {
		t.Error(impl.MaxLeaves, impl.MaxLeaf)
	}
}

func TestLeafHash(t *testing.T) {
	for n := 0; n <= 64; n++ {
		for _, leaf := range []string{string(mixedBytes(n)), strings.Repeat("\x00", n), strings.Repeat("\x01", n)} {
			if h, code := impl.LeafHash(leaf); h != hashed("\x00", leaf) || len(h) != 32 || code != impl.OK {
				t.Error("a leaf of", n, len(h), code)
			}
		}
	}
}

func TestLeafHashThatIsKnown(t *testing.T) {
	h, _ := impl.LeafHash("")
	if got := hashText(t, h); got != "bc36789e7a1e281436464229828f817d6612f7b477d66591ff96a9e064bcc98a" {
		t.Error("the hash of one byte 0:", got)
	}
}

func TestLeafHashFaults(t *testing.T) {
	for n, want := range map[int]int{65: impl.ErrRange, 66: impl.ErrRange, 128: impl.ErrRange, impl.MaxText: impl.ErrRange, tooLong: impl.ErrLong, 2 * impl.MaxText: impl.ErrLong} {
		if h, code := impl.LeafHash(strings.Repeat("a", n)); h != "" || code != want {
			t.Error(n, len(h), code)
		}
	}
}

func TestNodeHash(t *testing.T) {
	hashes := []string{strings.Repeat("\x00", 32), strings.Repeat("\xff", 32), string(mixedBytes(32)), hashed(), hashed("a")}
	for _, a := range hashes {
		for _, b := range hashes {
			if h, code := impl.NodeHash(a, b); h != hashed("\x01", a, b) || len(h) != 32 || code != impl.OK {
				t.Error(a, b, len(h), code)
			}
			if leaf, code := impl.LeafHash(a + b); leaf == hashed("\x01", a, b) || code != impl.OK {
				t.Error("a leaf of two hashes is not the node above them", code)
			}
		}
	}
}

func TestNodeHashFaults(t *testing.T) {
	lengths := []int{0, 1, 16, 31, 32, 33, 63, 64, impl.MaxText, tooLong}
	for _, m := range lengths {
		for _, n := range lengths {
			want := impl.ErrSize
			switch {
			case m == tooLong || n == tooLong:
				want = impl.ErrLong
			case m == 32 && n == 32:
				continue
			}
			if h, code := impl.NodeHash(strings.Repeat("a", m), strings.Repeat("b", n)); h != "" || code != want {
				t.Error(m, n, len(h), code)
			}
		}
	}
}

func TestMerkleRoot(t *testing.T) {
	for _, n := range treeSizes {
		for _, leaves := range [][]string{mixedLeaves(n), make([]string, n), slices.Repeat([]string{strings.Repeat("z", 64)}, n)} {
			if root, code := impl.MerkleRoot(leaves); root != plainRoot(leaves) || len(root) != 32 || code != impl.OK {
				t.Error(n, "leaves", len(root), code)
			}
		}
	}
}

func TestRootHangsOnEachLeaf(t *testing.T) {
	leaves := mixedLeaves(16)
	lists := [][]string{leaves}
	for i := range leaves {
		lists = append(lists, with(leaves, i, "other"), with(leaves, i, leaves[i][:len(leaves[i])/2]))
		for j := range i {
			lists = append(lists, with(with(leaves, i, leaves[j]), j, leaves[i]))
		}
	}
	seen := map[string]bool{}
	for _, list := range lists {
		root, _ := impl.MerkleRoot(list)
		seen[root] = true
	}
	if len(seen) != len(lists) {
		t.Error(len(seen), "roots of", len(lists), "lists")
	}
}

// treeFaults are lists that have no tree, with their codes.
func treeFaults() map[string]struct {
	leaves []string
	code   int
} {
	type fault = struct {
		leaves []string
		code   int
	}
	faults := map[string]fault{
		"nil":                        {nil, impl.ErrSize},
		"no leaves":                  {[]string{}, impl.ErrSize},
		"the longest list":           {make([]string, impl.MaxList), impl.ErrSize},
		"too long a list":            {make([]string, impl.MaxList+1), impl.ErrLong},
		"twice too long a list":      {make([]string, 2*impl.MaxList), impl.ErrLong},
		"3 leaves, one too long":     {[]string{"", strings.Repeat("a", 65), ""}, impl.ErrSize},
		"too long a list, of a leaf": {with(make([]string, impl.MaxList+1), 0, strings.Repeat("a", 65)), impl.ErrLong},
		"a leaf beyond MaxText":      {[]string{"", strings.Repeat("a", tooLong)}, impl.ErrRange},
		"one leaf too long":          {[]string{strings.Repeat("a", 65)}, impl.ErrRange},
		"leaves too long":            {slices.Repeat([]string{strings.Repeat("a", 100)}, 4), impl.ErrRange},
		"257 leaves":                 {make([]string, 257), impl.ErrSize},
		"512 leaves":                 {make([]string, 512), impl.ErrSize},
		"255 leaves":                 {make([]string, 255), impl.ErrSize},
	}
	for _, n := range []int{3, 5, 6, 7, 9, 12, 24, 96, 192} {
		faults[fmt.Sprint(n, " leaves")] = fault{make([]string, n), impl.ErrSize}
	}
	for i := range 8 {
		faults[fmt.Sprint("leaf too long at ", i)] = fault{with(mixedLeaves(8), i, strings.Repeat("a", 65)), impl.ErrRange}
	}
	for _, i := range []int{0, 100, 255} {
		faults[fmt.Sprint("leaf of 256 too long at ", i)] = fault{with(mixedLeaves(256), i, strings.Repeat("a", 65)), impl.ErrRange}
	}
	return faults
}

func TestTreeFaults(t *testing.T) {
	for name, f := range treeFaults() {
		if root, code := impl.MerkleRoot(f.leaves); root != "" || code != f.code {
			t.Error("MerkleRoot of", name, len(root), code)
		}
		for _, i := range []int{0, -1, len(f.leaves) - 1, len(f.leaves), math.MaxInt} {
			if path, code := impl.MerklePath(f.leaves, i); len(path) != 0 || code != f.code {
				t.Error("MerklePath of", name, i, len(path), code)
			}
		}
	}
}

func TestMerklePath(t *testing.T) {
	for _, n := range treeSizes {
		leaves := mixedLeaves(n)
		root, _ := impl.MerkleRoot(leaves)
		places := edgePlaces(n)
		if n <= 32 {
			places = nil
			for i := range n {
				places = append(places, i)
			}
		}
		for _, i := range places {
			path := pathOf(t, leaves, i)
			if !slices.Equal(path, plainPath(leaves, i)) {
				t.Error("the path of", i, "of", n)
			}
			if !leads(t, root, n, i, leaves[i], path) {
				t.Error("the path of", i, "of", n, "does not lead to the root")
			}
		}
	}
}

func TestMerklePathFaults(t *testing.T) {
	for _, n := range treeSizes {
		for _, i := range []int{-1, -2, -n, n, n + 1, 2 * n, 256, 1 << 32, math.MaxInt, math.MinInt} {
			if path, code := impl.MerklePath(mixedLeaves(n), i); len(path) != 0 || code != impl.ErrRange {
				t.Error(n, i, len(path), code)
			}
		}
	}
}

func TestLoneLeaf(t *testing.T) {
	for _, leaf := range []string{"", "x", strings.Repeat("a", 64)} {
		root, _ := impl.MerkleRoot([]string{leaf})
		if root != hashed("\x00", leaf) || len(pathOf(t, []string{leaf}, 0)) != 0 {
			t.Error("its hash is the root")
		}
		if !leads(t, root, 1, 0, leaf, nil) || !leads(t, root, 1, 0, leaf, []string{}) {
			t.Error("no path leads to the root")
		}
		if leads(t, root, 1, 0, leaf, []string{root}) || leads(t, root, 1, 0, leaf, []string{""}) || leads(t, root, 1, 0, leaf+"a", nil) {
			t.Error("no other way does")
		}
	}
}

func TestOtherLeavesDoNotLead(t *testing.T) {
	for _, n := range treeSizes {
		leaves := mixedLeaves(n)
		root := plainRoot(leaves)
		for _, i := range edgePlaces(n) {
			path := plainPath(leaves, i)
			for _, other := range []string{leaves[i] + "a", "\x00" + leaves[i], "other", strings.Repeat("a", 64), strings.Repeat("a", 65), strings.Repeat("a", impl.MaxText), hashed("\x00", leaves[i])} {
				if leads(t, root, n, i, other, path) {
					t.Error("a leaf of", len(other), "bytes at", i, "of", n)
				}
			}
			for j := range n {
				if j != i && leaves[j] != leaves[i] && leads(t, root, n, i, leaves[j], path) {
					t.Error("leaf", j, "at", i, "of", n)
				}
			}
		}
	}
}

func TestOtherPlacesDoNotLead(t *testing.T) {
	for _, n := range treeSizes {
		leaves := mixedLeaves(n)
		root := plainRoot(leaves)
		for _, i := range edgePlaces(n) {
			path := plainPath(leaves, i)
			for j := range n {
				if leads(t, root, n, j, leaves[i], path) != (i == j) {
					t.Error("leaf", i, "at", j, "of", n)
				}
			}
			for _, m := range treeSizes {
				if i < m && leads(t, root, m, i, leaves[i], path) != (m == n) {
					t.Error("leaf", i, "of", n, "as one of", m)
				}
			}
		}
	}
}

func TestOtherPathsDoNotLead(t *testing.T) {
	for _, n := range treeSizes {
		leaves := mixedLeaves(n)
		root := plainRoot(leaves)
		for _, i := range edgePlaces(n) {
			path := plainPath(leaves, i)
			others := [][]string{append(slices.Clone(path), root), append([]string{hashed("\x00", leaves[i])}, path...), append(slices.Clone(path), ""), append(slices.Clone(path), path...), make([]string, 64), make([]string, impl.MaxList)}
			for at := range path {
				others = append(others, path[:at], path[at+1:], slices.Delete(slices.Clone(path), at, at+1), with(path, at, turned(path[at], at)), with(path, at, turned(path[at], 255)), with(path, at, ""), with(path, at, path[at][:31]), with(path, at, path[at]+"\x00"), with(path, at, "\x00"+path[at]), with(path, at, strings.Repeat("a", tooLong)))
				for to := range at {
					others = append(others, with(with(path, at, path[to]), to, path[at]))
				}
			}
			for _, other := range others {
				if !slices.Equal(path, other) && leads(t, root, n, i, leaves[i], other) {
					t.Error("a path of", len(other), "at", i, "of", n)
				}
			}
		}
	}
}

func TestOtherRootsAreNotLedTo(t *testing.T) {
	for _, n := range treeSizes {
		leaves := mixedLeaves(n)
		root := plainRoot(leaves)
		for _, i := range edgePlaces(n) {
			path := plainPath(leaves, i)
			for _, other := range []string{"", root[:31], root[1:], root + "\x00", "\x00" + root, root + root, turned(root, 0), turned(root, 255), hashed(root), hashText(t, root), strings.Repeat("a", impl.MaxText)} {
				if leads(t, other, n, i, leaves[i], path) {
					t.Error("a root of", len(other), "bytes of", n, "leaves")
				}
			}
		}
	}
}

// These ways would lead to their roots if nobody looked at lengths.
func TestWaysOfOtherLengthsDoNotLead(t *testing.T) {
	long := strings.Repeat("a", 65)
	if leads(t, hashed("\x00", long), 1, 0, long, nil) {
		t.Error("a leaf of 65 bytes")
	}
	leaf := hashed("\x00", "leaf")
	for _, n := range []int{0, 1, 31, 33, 64, 1000} {
		beside := strings.Repeat("b", n)
		if leads(t, hashed("\x01", leaf, beside), 2, 0, "leaf", []string{beside}) || leads(t, hashed("\x01", beside, leaf), 2, 1, "leaf", []string{beside}) {
			t.Error("beside it", n, "bytes")
		}
		upper := hashed("\x01", leaf, hashed("a"))
		if leads(t, hashed("\x01", upper, beside), 4, 0, "leaf", []string{hashed("a"), beside}) {
			t.Error("further up", n, "bytes")
		}
	}
	leaves := mixedLeaves(8)
	if root, path := plainRoot(leaves), plainPath(leaves, 0); leads(t, root, 4, 0, leaves[0], path) || leads(t, root, 16, 0, leaves[0], path) {
		t.Error("8 leaves are neither 4 nor 16")
	}
	inner := hashed("\x01", leaf, leaf)
	if leads(t, inner, 1, 0, leaf+leaf, nil) {
		t.Error("a node is no leaf")
	}
}

func TestCheckPathFaults(t *testing.T) {
	leaves := mixedLeaves(8)
	root, path := plainRoot(leaves), plainPath(leaves, 5)
	check := func(want int, root string, n, i int, leaf string, path []string) {
		t.Helper()
		if ok, code := impl.CheckPath(root, n, i, leaf, path); ok || code != want {
			t.Error(len(root), n, i, len(leaf), len(path), "answers", ok, code)
		}
	}
	for _, n := range noTreeSizes {
		for _, i := range []int{0, 5, -1, n, math.MaxInt, math.MinInt} {
			check(impl.ErrSize, root, n, i, leaves[5], path)
			check(impl.ErrSize, "", n, i, strings.Repeat("a", 65), nil)
		}
		check(impl.ErrLong, strings.Repeat("r", tooLong), n, 0, leaves[5], path)
	}
	for _, n := range treeSizes {
		for _, i := range []int{-1, -n, math.MinInt, n, n + 1, 256, 1 << 32, math.MaxInt} {
			check(impl.ErrRange, root, n, i, leaves[5], path)
			check(impl.ErrRange, "", n, i, strings.Repeat("a", 65), nil)
		}
	}
	for _, n := range []int{8, 3} {
		for _, i := range []int{5, -1, 8} {
			check(impl.ErrLong, strings.Repeat("r", tooLong), n, i, leaves[5], path)
			check(impl.ErrLong, root, n, i, strings.Repeat("a", tooLong), path)
			check(impl.ErrLong, root, n, i, leaves[5], make([]string, impl.MaxList+1))
		}
	}
}

func TestSameWaysHaveNoCollision(t *testing.T) {
	for _, n := range treeSizes {
		leaves := mixedLeaves(n)
		root := plainRoot(leaves)
		for _, i := range edgePlaces(n) {
			path := plainPath(leaves, i)
			if c, code := impl.ExtractCollision(root, n, i, leaves[i], path, strings.Clone(leaves[i]), slices.Clone(path)); c != (impl.Collision{}) || code != impl.ErrNone {
				t.Error(i, "of", n, c, code)
			}
		}
	}
}

func TestCollisionFaults(t *testing.T) {
	leaves := mixedLeaves(8)
	root, path := plainRoot(leaves), plainPath(leaves, 5)
	type way struct {
		leaf string
		path []string
	}
	right := way{leaves[5], path}
	refused := func(want int, root string, n, i int, a, b way) {
		t.Helper()
		if c, code := impl.ExtractCollision(root, n, i, a.leaf, a.path, b.leaf, b.path); c != (impl.Collision{}) || code != want {
			t.Error(len(root), n, i, len(a.leaf), len(a.path), len(b.leaf), len(b.path), "answers", len(c.A), len(c.B), code)
		}
	}
	wrong := []way{
		{"other", path}, {strings.Repeat("a", 65), path}, {leaves[5], nil}, {leaves[5], path[:2]}, {leaves[5], append(slices.Clone(path), root)},
		{leaves[5], with(path, 2, turned(path[2], 9))}, {leaves[5], with(path, 0, path[0][:31])}, {leaves[4], plainPath(leaves, 4)},
	}
	for _, w := range wrong {
		refused(impl.ErrPath, root, 8, 5, w, right)
		refused(impl.ErrPath, root, 8, 5, right, w)
		refused(impl.ErrPath, root, 8, 5, w, w)
	}
	for _, r := range []string{"", root[:31], root + "\x00", turned(root, 3)} {
		refused(impl.ErrPath, r, 8, 5, right, right)
	}
	for _, i := range []int{0, 4, 6, 7} {
		refused(impl.ErrPath, root, 8, i, right, right)
	}
	long := strings.Repeat("a", tooLong)
	for _, w := range append(wrong, right) {
		for _, n := range noTreeSizes {
			refused(impl.ErrSize, root, n, 5, right, w)
			refused(impl.ErrSize, "", n, -1, w, right)
		}
		for _, i := range []int{-1, 8, 9, math.MinInt, math.MaxInt} {
			refused(impl.ErrRange, root, 8, i, right, w)
			refused(impl.ErrRange, "", 8, i, w, right)
		}
		for _, n := range []int{8, 3} {
			for _, i := range []int{5, -1} {
				refused(impl.ErrLong, long, n, i, w, right)
				for _, l := range []way{{long, path}, {leaves[5], make([]string, impl.MaxList+1)}} {
					refused(impl.ErrLong, root, n, i, w, l)
					refused(impl.ErrLong, root, n, i, l, w)
				}
			}
		}
	}
}
