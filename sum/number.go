package sum

import "loupe/api"

// Sums of numbers wrap round beyond 64 bits: each is asked, behind the fact, whether it did.

func plus(a, b int64) int64 {
	sum := a + b
	need((sum < a) == (b < 0), api.ErrOver)
	return sum
}

func minus(a, b int64) int64 {
	rest := a - b
	need((rest > a) == (b < 0), api.ErrOver)
	return rest
}

// times asks for the sign, too: the least number divided by -1 wraps round to itself.
func times(a, b int64) int64 {
	if a == 0 || b == 0 {
		return 0
	}
	product := a * b
	need(product/a == b && (product < 0) == ((a < 0) != (b < 0)), api.ErrOver)
	return product
}

// quotient takes the sign away where it divides by -1: of the least number that is beyond 64 bits.
func quotient(a, b int64) int64 {
	need(b != 0, api.ErrZero)
	if b == -1 {
		return minus(0, a)
	}
	return a / b
}

func left(a, b int64) int64 {
	need(b != 0, api.ErrZero)
	return a % b
}

func bare(a int64) int64 {
	if a < 0 {
		return minus(0, a)
	}
	return a
}
