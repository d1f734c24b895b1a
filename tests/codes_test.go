package tests

import (
	"math"
	"strings"
	"testing"

	"loop.example/g00348/impl"
)

var codeTable = []struct {
	number, code int
	word         string
}{
	{0, impl.OK, "ok"},
	{1, impl.ErrBad, "bad"},
	{2, impl.ErrLong, "long"},
	{3, impl.ErrForm, "form"},
	{4, impl.ErrRange, "range"},
	{5, impl.ErrNone, "none"},
	{6, impl.ErrMany, "many"},
	{7, impl.ErrZero, "zero"},
	{8, impl.ErrSize, "size"},
	{9, impl.ErrPath, "path"},
	{10, impl.ErrSum, "sum"},
	{11, impl.ErrClaim, "claim"},
	{12, impl.ErrFold, "fold"},
	{13, impl.ErrLast, "last"},
	{14, impl.ErrGrind, "grind"},
	{15, impl.ErrUnsatisfied, "unsatisfied"},
	{16, impl.ErrSecure, "secure"},
	{17, impl.ErrPublic, "public"},
	{18, impl.ErrLength, "length"},
	{19, impl.ErrCircuit, "circuit"},
}

func TestBounds(t *testing.T) {
	if impl.MaxText != 65536 || impl.MaxList != 4096 || impl.MaxName != 40 {
		t.Error(impl.MaxText, impl.MaxList, impl.MaxName)
	}
}

func TestCodesAndWords(t *testing.T) {
	for _, c := range codeTable {
		if c.code != c.number {
			t.Errorf("code of %q is %d, not %d", c.word, c.code, c.number)
		}
		if got := impl.CodeWord(c.number); got != c.word {
			t.Errorf("CodeWord(%d) = %q, not %q", c.number, got, c.word)
		}
		if got := impl.CodeOf(c.word); got != c.number {
			t.Errorf("CodeOf(%q) = %d, not %d", c.word, got, c.number)
		}
	}
}

func TestNoCodes(t *testing.T) {
	for _, code := range []int{-1, -2, 20, 21, 256, 1 << 32, 1<<32 + 1, 1<<63 - 1, math.MaxInt - 1, math.MinInt, math.MinInt + 1} {
		if got := impl.CodeWord(code); got != "" {
			t.Errorf("CodeWord(%d) = %q", code, got)
		}
	}
}

func TestNoWords(t *testing.T) {
	texts := []string{
		"", " ", "o", "okk", "OK", "Ok", " ok", "ok ", "ok\n", "ok\x00", "\x00", "\xff", "ErrBad", "0", "1", "-1", "okbad",
		"unsatisfie", "unsatisfiedd", strings.Repeat("ok", 100),
		strings.Repeat("o", impl.MaxText), strings.Repeat("o", impl.MaxText+1), strings.Repeat("ok", impl.MaxText),
		"ok" + strings.Repeat("\x00", impl.MaxText), "bad" + strings.Repeat(" ", impl.MaxText),
	}
	for _, text := range texts {
		if got := impl.CodeOf(text); got != -1 {
			t.Errorf("CodeOf of %d bytes %.20q = %d", len(text), text, got)
		}
	}
}

func TestNames(t *testing.T) {
	for _, name := range []string{
		"a", "z", "A", "Z", "_", "__", "_0", "a0", "z9", "aZ_09", "ok", "A_b_C_1",
		strings.Repeat("a", impl.MaxName), "_" + strings.Repeat("9", impl.MaxName-1),
	} {
		if !impl.NameOK(name) {
			t.Errorf("%q is a name", name)
		}
	}
	for _, text := range []string{
		"", " ", "0", "9", "0a", "9_", "-", "a-b", "a b", " a", "a ", "a\n", "\na", "a\x00", "\x00", "a.b", "é", "aé", "\xff", "a\xff", "a\x80",
		strings.Repeat("a", impl.MaxName+1), strings.Repeat("a", impl.MaxName) + " ",
		strings.Repeat("a", impl.MaxText), strings.Repeat("a", impl.MaxText+1), strings.Repeat("a", 256+1), strings.Repeat("a", 1<<17),
	} {
		if impl.NameOK(text) {
			t.Errorf("%d bytes %.20q are no name", len(text), text)
		}
	}
}

// TestNameBytes tells for each byte, by its own list, where it may stand.
func TestNameBytes(t *testing.T) {
	letters := "abcdefghijklmnopqrstuvwxyzABCDEFGHIJKLMNOPQRSTUVWXYZ_"
	digits := "0123456789"
	for c := 0; c < 256; c++ {
		b := string([]byte{byte(c)})
		first, later := strings.Contains(letters, b), strings.Contains(letters+digits, b)
		if impl.NameOK(b) != first || impl.NameOK(b+"x") != first {
			t.Errorf("byte %d as the first", c)
		}
		if impl.NameOK("x"+b) != later || impl.NameOK("x"+b+"y") != later {
			t.Errorf("byte %d as a later one", c)
		}
	}
}
