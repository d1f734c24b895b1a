package impl

// Prime is 2 to the 31, less 2 to the 24, and 1.
const Prime = 2130706433

// Prime - 1 is oddPart times 2 to the maxRootLog; all powers of the generator are all numbers but 0.
const (
	generator  = 3
	oddPart    = 127
	maxRootLog = 24
)

// Montgomery's form holds a number times 2 to the montBits: its products are brought below Prime without a division.
const (
	montBits   = 32
	montOne    = (1 << montBits) % Prime
	montSquare = montOne * montOne % Prime
	// Times Prime this is (Prime - 1) squared less 1, which is -1 modulo 2 to the montBits.
	montNegative = Prime - 2
)

type mont uint32

// montReduce divides by 2 to the montBits; t is below Prime times that, so nothing here wraps but what is meant to.
func montReduce(t uint64) mont {
	m := uint32(t) * montNegative
	u := (t + uint64(m)*Prime) >> montBits
	if u >= Prime {
		u -= Prime
	}
	return mont(u)
}

func montMul(a, b mont) mont {
	return montReduce(uint64(a) * uint64(b))
}

func toMont(a int) mont {
	return montReduce(uint64(a) * montSquare)
}

func fromMont(a mont) int {
	return int(montReduce(uint64(a)))
}

// montPow goes by digits of base four, the lowest first: a digit d falls through d products.
func montPow(a mont, n int) mont {
	power := mont(montOne)
	for n > 0 {
		switch n % 4 {
		case 3:
			power = montMul(power, a)
			fallthrough
		case 2:
			power = montMul(power, a)
			fallthrough
		case 1:
			power = montMul(power, a)
		}
		a = montMul(a, a)
		a = montMul(a, a)
		n /= 4
	}
	return power
}

// montInverse holds because a to the Prime - 1 is 1, of any a but 0.
func montInverse(a mont) mont {
	return montPow(a, Prime-2)
}

// FieldOK tells whether a is a number of the field.
func FieldOK(a int) bool {
	return a >= 0 && a < Prime
}

func numbersOK(list []int) bool {
	for _, a := range list {
		if !FieldOK(a) {
			return false
		}
	}
	return true
}

// Add is a + b modulo Prime.
func Add(a, b int) (int, int) {
	if !FieldOK(a) || !FieldOK(b) {
		return 0, ErrBad
	}
	return (a + b) % Prime, OK
}

// Sub is a - b modulo Prime.
func Sub(a, b int) (int, int) {
	if !FieldOK(a) || !FieldOK(b) {
		return 0, ErrBad
	}
	return (a + Prime - b) % Prime, OK
}

// Mul is a times b modulo Prime.
func Mul(a, b int) (int, int) {
	if !FieldOK(a) || !FieldOK(b) {
		return 0, ErrBad
	}
	return fromMont(montMul(toMont(a), toMont(b))), OK
}

// Pow is a to the n modulo Prime; 0 to the 0 is 1 too.
func Pow(a, n int) (int, int) {
	if !FieldOK(a) {
		return 0, ErrBad
	}
	if n < 0 {
		return 0, ErrRange
	}
	return fromMont(montPow(toMont(a), n)), OK
}

// Inverse is the number whose product with a is 1.
func Inverse(a int) (int, int) {
	if !FieldOK(a) {
		return 0, ErrBad
	}
	if a == 0 {
		return 0, ErrZero
	}
	return fromMont(montInverse(toMont(a))), OK
}

// RootOf is a number of order 2 to the k.
func RootOf(k int) (int, int) {
	if k < 0 || k > maxRootLog {
		return 0, ErrRange
	}
	n := oddPart << (maxRootLog - k)
	return fromMont(montPow(toMont(generator), n)), OK
}

// BatchInverse is the list of the inverses.
func BatchInverse(list []int) ([]int, int) {
	if code := batchFault(list); code != OK {
		return nil, code
	}
	return invertAll(list), OK
}

func batchFault(list []int) int {
	if len(list) > MaxList {
		return ErrLong
	}
	zero := false
	for _, a := range list {
		if !FieldOK(a) {
			return ErrBad
		}
		zero = zero || a == 0
	}
	if zero {
		return ErrZero
	}
	return OK
}

// invertAll inverts the product of all alone: going back, each one's inverse is that times the product of those ahead of it.
func invertAll(list []int) []int {
	ahead := make([]mont, len(list))
	product := mont(montOne)
	for i, a := range list {
		ahead[i] = product
		product = montMul(product, toMont(a))
	}
	inverse := montInverse(product)
	answer := make([]int, len(list))
	for i := len(list) - 1; i >= 0; i-- {
		answer[i] = fromMont(montMul(inverse, ahead[i]))
		inverse = montMul(inverse, toMont(list[i]))
	}
	return answer
}
