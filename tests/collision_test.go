package tests

import (
	"slices"
	"strings"
	"testing"

	"loop.example/g00348/impl"
)

// Promise 5: two leaves at one place under one root would be two texts of one hash. Nobody has two such leaves; so
// here the program is copied, its hash is made a weak one of four values, and the copy is asked.

const weakHash = `package impl

import "strings"

func Keccak256(b []byte) string {
	h := strongKeccak256(b)
	if h == "" {
		return ""
	}
	return string([]byte{h[0] & 3}) + strings.Repeat("\x00", HashSize-1)
}
`

func isWeak(h string) bool { return len(h) == 32 && h[1:] == strings.Repeat("\x00", 31) }

func TestCollisionsOfAWeakHash(t *testing.T) {
	if isWeak(impl.Keccak256(nil)) {
		t.Skip("this is the copy")
	}
	asksACopy(t, weakHash, "TestCollisionsAreTold")
}

type wayUp struct {
	leaf string
	path []string
}

// texts are what is hashed on the way up from place i, and the root.
func (w wayUp) texts(i int) ([]string, string) {
	texts := []string{"\x00" + w.leaf}
	root := hashed(texts[0])
	for _, beside := range w.path {
		text := "\x01" + root + beside
		if i%2 == 1 {
			text = "\x01" + beside + root
		}
		texts, root, i = append(texts, text), hashed(text), i/2
	}
	return texts, root
}

// mixedWay has another leaf than w, perhaps, and others of the first hashes of its path.
func (d *draws) mixedWay(w wayUp, hashes int) wayUp {
	other := wayUp{w.leaf, slices.Clone(w.path)}
	if d.next()%2 == 0 {
		other.leaf = string(mixedBytes(d.next() % 65))
	}
	for i := range hashes {
		if d.next()%2 == 0 {
			other.path[i] = string(mixedBytes(100 + d.next()%9)[:32])
		}
	}
	return other
}

// lastThatDiffer is the place of the last texts that differ, and whether others ahead of them do; -1 if none do.
func lastThatDiffer(a, b []string) (int, bool) {
	last, many := -1, false
	for i := range a {
		if a[i] != b[i] {
			last, many = i, last >= 0
		}
	}
	return last, many
}

// TestCollisionsAreTold is for the copy with the weak hash: here there are no two ways to ask with.
func TestCollisionsAreTold(t *testing.T) {
	leaf, _ := impl.LeafHash("x")
	node, _ := impl.NodeHash(leaf, leaf)
	if !isWeak(leaf) || !isWeak(node) {
		t.Skip("the hash is strong")
	}
	for up, n := range treeSizes {
		asked := make([]int, up+1)
		askedAmongMany := make([]int, up+1)
		d := draws(uint64(n))
		for range 100 * (up + 1) {
			a := d.mixedWay(wayUp{"leaf", slices.Repeat([]string{strings.Repeat("h", 32)}, up)}, up)
			b := d.mixedWay(a, d.next()%(up+1))
			last, many := askForCollision(t, n, d.next()%n, a, b)
			if last >= 0 {
				asked[last]++
			}
			if many {
				askedAmongMany[last]++
			}
		}
		if slices.Contains(asked, 0) || slices.Contains(askedAmongMany[1:], 0) {
			t.Error("of", n, "leaves too few are asked for:", asked, askedAmongMany)
		}
	}
}

// askForCollision holds the answer against the two ways up, and tells where they differ if they lead to one root.
func askForCollision(t *testing.T, n, i int, a, b wayUp) (int, bool) {
	t.Helper()
	textsA, root := a.texts(i)
	textsB, rootB := b.texts(i)
	got, code := impl.ExtractCollision(root, n, i, a.leaf, a.path, b.leaf, b.path)
	if !leads(t, root, n, i, a.leaf, a.path) || leads(t, root, n, i, b.leaf, b.path) != (root == rootB) {
		t.Fatal("CheckPath at", i, "of", n)
	}
	last, many := lastThatDiffer(textsA, textsB)
	want, wantCode := impl.Collision{}, impl.ErrNone
	switch {
	case root != rootB:
		last, many, wantCode = -1, false, impl.ErrPath
	case last >= 0:
		want, wantCode = impl.Collision{A: textsA[last], B: textsB[last]}, impl.OK
	}
	if got != want || code != wantCode {
		t.Fatal("at", i, "of", n, "code", code, "is to be", wantCode, "texts differ last at", last)
	}
	if code == impl.OK && (got.A == got.B || hashed(got.A) != hashed(got.B)) {
		t.Fatal("two texts of one hash at", i, "of", n)
	}
	return last, many
}
