package impl

import "strconv"

const MaxValue = 1000000000000

// numeral is what a text turns out to be when it is read as an integer.
// The unexported method keeps other types out, so a type switch over
// decimal and noNumeral sees every kind.
type numeral interface {
	isNumeral()
}

type decimal struct{ value int }

type noNumeral struct{}

func (decimal) isNumeral() {}

func (noNumeral) isNumeral() {}

// readNumeral formats the number again, because strconv.Atoi also takes
// signs and leading zeros, which are not the decimal form of any result.
func readNumeral(s string) numeral {
	n, err := strconv.Atoi(s)
	if err != nil || !InRange(n, 0, MaxValue) || FormatInt(n) != s {
		return noNumeral{}
	}
	return decimal{n}
}

func FormatInt(n int) string {
	return strconv.Itoa(n)
}

func ParseInt(s string) (int, bool) {
	switch read := readNumeral(s).(type) {
	case decimal:
		return read.value, true
	default:
		return 0, false
	}
}

// extremeOf compares instead of negating, because the smallest int has no
// negative.
func extremeOf(greatest bool, first int, rest ...int) int {
	best := first
	for _, n := range rest {
		if greatest && n > best || !greatest && n < best {
			best = n
		}
	}
	return best
}

func Min(a int, b int) int {
	return extremeOf(false, a, b)
}

func Max(a int, b int) int {
	return extremeOf(true, a, b)
}

func CeilDiv(a int, b int) int {
	if !InRange(a, 0, MaxValue) || !InRange(b, 1, MaxValue) {
		return 0
	}
	return (a + b - 1) / b
}

func Mod(p int, q int) int {
	if !InRange(q, 1, MaxValue) {
		return 0
	}
	remainder := p % q
	if remainder < 0 {
		remainder += q
	}
	return remainder
}

func InRange(n int, low int, high int) bool {
	return low <= n && n <= high
}
