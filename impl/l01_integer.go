package impl

import "strconv"

const MaxValue = 1000000000000

// integer is an int told by its sign and its magnitude. The least int has no
// positive counterpart among the ints, but its magnitude is a uint64 like that
// of all others, so it needs no case of its own.
type integer interface {
	magnitude() uint64
}

type natural int

type negative int

func (n natural) magnitude() uint64 {
	return uint64(n)
}

// The negation is made after the conversion, where it wraps around to the
// magnitude also for the least int.
func (n negative) magnitude() uint64 {
	return -uint64(n)
}

func integerOf(n int) integer {
	if n < 0 {
		return negative(n)
	}
	return natural(n)
}

func FormatInt(n int) string {
	k := integerOf(n)
	digits := strconv.FormatUint(k.magnitude(), 10)
	switch k.(type) {
	case negative:
		return "-" + digits
	default:
		return digits
	}
}

func ParseInt(s string) (int, bool) {
	n, err := strconv.Atoi(s)
	// Atoi also takes signs and leading zeros; only the one text that FormatInt
	// gives back is accepted.
	if err != nil || !InRange(n, 0, MaxValue) || FormatInt(n) != s {
		return 0, false
	}
	return n, true
}

// foremost has its first number apart from the others, so that there always is
// one to return.
func foremost(goesBefore func(a int, b int) bool, first int, others ...int) int {
	best := first
	for _, n := range others {
		if goesBefore(n, best) {
			best = n
		}
	}
	return best
}

func isLess(a int, b int) bool {
	return a < b
}

func isGreater(a int, b int) bool {
	return a > b
}

func Min(a int, b int) int {
	return foremost(isLess, a, b)
}

func Max(a int, b int) int {
	return foremost(isGreater, a, b)
}

func CeilDiv(a int, b int) int {
	if !InRange(a, 0, MaxValue) || !InRange(b, 1, MaxValue) {
		return 0
	}
	return (a + b - 1) / b
}

func Mod(p int, q int) int {
	if !InRange(q, 1, MaxValue) {
		return 0
	}
	rest := p % q
	if rest < 0 {
		// Go's remainder has the sign of p.
		return rest + q
	}
	return rest
}

func InRange(n int, low int, high int) bool {
	return low <= n && n <= high
}
