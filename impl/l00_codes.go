package impl

import "strconv"

const (
	MaxText = 65536
	MaxList = 4096
	MaxName = 40
)

// numberBound is 1 and 18 noughts: a number's text has at most 18 digits.
const numberBound = 1_000_000_000_000_000_000

const (
	OK = iota
	ErrBad
	ErrLong
	ErrForm
	ErrRange
	ErrNone
	ErrMany
	ErrZero
	ErrSize
	ErrPath
	ErrSum
	ErrClaim
	ErrFold
	ErrLast
	ErrGrind
	ErrUnsatisfied
	ErrSecure
	ErrPublic
	ErrLength
	ErrCircuit
)

// codeWords stands in the order of the codes: a code is its word's place.
var codeWords = [...]string{
	"ok", "bad", "long", "form", "range",
	"none", "many", "zero", "size", "path",
	"sum", "claim", "fold", "last", "grind",
	"unsatisfied", "secure", "public", "length", "circuit",
}

// NameOK tells whether t is a name: a letter or _, then any of these and digits, at most MaxName bytes.
func NameOK(t string) bool {
	if len(t) < 1 || len(t) > MaxName || isDigit(t[0]) {
		return false
	}
	for i := 0; i < len(t); i++ {
		if !isNameLetter(t[i]) && !isDigit(t[i]) {
			return false
		}
	}
	return true
}

func isNameLetter(c byte) bool {
	return c >= 'a' && c <= 'z' || c >= 'A' && c <= 'Z' || c == '_'
}

func isDigit(c byte) bool {
	return c >= '0' && c <= '9'
}

// numberFrom reads a number's text: of digits, signs and noughts ahead just those that are told again.
func numberFrom(text string) (int, bool) {
	n, err := strconv.Atoi(text)
	if err != nil || strconv.Itoa(n) != text || n <= -numberBound || n >= numberBound {
		return 0, false
	}
	return n, true
}

// CodeWord is the word of a code, empty for any other number.
func CodeWord(code int) string {
	if code < 0 || code >= len(codeWords) {
		return ""
	}
	return codeWords[code]
}

// CodeOf is the code of a word, -1 for any other text.
func CodeOf(word string) int {
	for code := 0; code < len(codeWords); code++ {
		if codeWords[code] == word {
			return code
		}
	}
	return -1
}
