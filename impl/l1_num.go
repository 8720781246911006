// Package impl: angles, and numbers that are surely rounded right.
package impl

// Ways of rounding.
const (
	RoundDown = 1
	RoundUp   = 2
	RoundZero = 3
	RoundEven = 4
)

// NumMax is the greatest number that is divided, or divided by.
const NumMax = 1 << 60

// rounding divides a number by another one that it may be divided by.
type rounding func(a int, b int) int

// NumDown is a number divided, rounded down.
func NumDown(a int, b int) (int, bool) {
	return NumRound(a, b, RoundDown)
}

// NumUp is a number divided, rounded up.
func NumUp(a int, b int) (int, bool) {
	return NumRound(a, b, RoundUp)
}

// NumRound is a number divided, rounded some way.
func NumRound(a int, b int, way int) (int, bool) {
	if !mayDivide(a, b) || !isWay(way) {
		return 0, false
	}
	return roundingOf(way)(a, b), true
}

// NumRoot is the root of a number, rounded down.
func NumRoot(a int) (int, bool) {
	if a < 0 || a > NumMax {
		return 0, false
	}
	root := 0
	// The root of NumMax is 2^30, so no root has a greater bit, and no square that is tried leaves an int.
	for bit := 1 << 30; bit > 0; bit /= 2 {
		if more := root + bit; more*more <= a {
			root = more
		}
	}
	return root, true
}

func mayDivide(a int, b int) bool {
	return a >= -NumMax && a <= NumMax && b >= 1 && b <= NumMax
}

func isWay(way int) bool {
	return way >= RoundDown && way <= RoundEven
}

// roundingOf asks for a way that is one: the array has no place for others.
func roundingOf(way int) rounding {
	ways := [4]rounding{roundDown, roundUp, roundZero, roundEven}
	return ways[way-RoundDown]
}

func roundDown(a int, b int) int {
	whole := a / b
	// Go divides towards 0, which is up for what is below 0.
	if a%b < 0 {
		return whole - 1
	}
	return whole
}

func roundUp(a int, b int) int {
	return -roundDown(-a, b)
}

func roundZero(a int, b int) int {
	return a / b
}

func roundEven(a int, b int) int {
	down := roundDown(a, b)
	// Twice what is left is held against the divisor, as half of the divisor may not be whole.
	twice := 2 * (a - down*b)
	if twice > b || twice == b && down%2 != 0 {
		return down + 1
	}
	return down
}
