package tests

import (
	"fmt"
	"testing"

	"loop.example/g00348/impl"
)

// Promise 10, of openings for which the last nonce alone does, or none: nobody has one of these, so a copy of the program is asked.

func TestOpeningsOfAStingyHash(t *testing.T) {
	if isStingy() {
		t.Skip("this is the copy")
	}
	asksACopy(t, stingyHash, "TestOpeningsOfTheLastNonceAndOfNone")
}

// openedBehind is a sponge for which an opening's nonce is looked for in a state that begins with a byte 1, or one where it does not.
func openedBehind(t *testing.T, table, point []impl.Ext, rate int, one bool) impl.Source {
	t.Helper()
	for i := 0; ; i++ {
		s := spongeNamed(t, fmt.Sprint(i))
		if (shownDown(t, table, point, rate, s, honest).end.State[0] == 1) == one {
			return s
		}
	}
}

// TestOpeningsOfTheLastNonceAndOfNone is for the copy with the stingy hash.
func TestOpeningsOfTheLastNonceAndOfNone(t *testing.T) {
	if !isStingy() {
		t.Skip("the hash is the true one")
	}
	for _, vars := range []int{1, 2} {
		table, point := mixedExts(1<<vars), mixedExts(vars)
		last, none := openedBehind(t, table, point, 1, true), openedBehind(t, table, point, 1, false)
		for _, grind := range []int{1, 12} {
			set := impl.Setting{Rate: 1, Queries: 3, Grind: grind}
			openTableAsked{table, point, set, none}.asksCode(t, impl.ErrGrind)
			openTableAsked{table, point, set, withNumbers(none, allDraws-99, 0)}.asksCode(t, impl.ErrMany)
			a := rightAsked(t, vars, set, last)
			if back, code := impl.ReadOpening(plainBytes(a.o), vars, set); a.o.Nonce != 65535 || !sameOpening(back, a.o) || code != impl.OK {
				t.Error(grind, "bits of the last nonce", a.o.Nonce, code)
			}
			for _, nonce := range []int{0, 1, 65534} {
				a.changed(func(o *impl.Opening) { o.Nonce = nonce }).asks(t, impl.ErrGrind, "nonce", nonce)
			}
		}
		rightAsked(t, vars, impl.Setting{Rate: 1, Queries: 3}, none)
	}
}
