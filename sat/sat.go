// Package sat is layer 1: sums and products that never leave their limits, and
// tell when they would.
package sat

import "pinchcock/api"

// Clamp tells the nearest number from -Top to Top, and whether it is another
// one than n.
func Clamp(n int) (int, bool) {
	return Within(n, -api.Top, api.Top)
}

// Add tells the clamped sum of both numbers, clamped, and whether clamping
// changed any of the three.
func Add(a, b int) (int, bool) {
	x, y, beyond := both(a, b)
	sum, over := Clamp(x + y)
	return sum, beyond || over
}

// Sub tells the difference as Add tells the sum.
func Sub(a, b int) (int, bool) {
	x, y, beyond := both(a, b)
	rest, over := Clamp(x - y)
	return rest, beyond || over
}

// Mul tells the product as Add tells the sum.
func Mul(a, b int) (int, bool) {
	x, y, beyond := both(a, b)
	product, over := times(x, y)
	return product, beyond || over
}

// Within tells the nearest number from lo to hi, and whether it is another one
// than n; lo and true, if hi is below lo.
func Within(n, lo, hi int) (int, bool) {
	if hi < lo {
		return lo, true
	}
	nearest := min(max(n, lo), hi)
	return nearest, nearest != n
}

// Sum adds the numbers one behind the other, from 0 on, and tells whether any
// of these sums was changed.
func Sum(l ...int) (int, bool) {
	sum, changed := 0, false
	for _, n := range l {
		next, over := Add(sum, n)
		sum, changed = next, changed || over
	}
	return sum, changed
}

// both clamps two numbers, and tells whether that changed one of them.
func both(a, b int) (int, int, bool) {
	x, overX := Clamp(a)
	y, overY := Clamp(b)
	return x, y, overX || overY
}

// times multiplies two clamped numbers. A product of such may be too great for
// an int, so it is held against Top by a quotient, ahead of multiplying.
func times(x, y int) (int, bool) {
	if x == 0 || size(y) <= api.Top/size(x) {
		return x * y, false
	}
	if (x < 0) != (y < 0) {
		return -api.Top, true
	}
	return api.Top, true
}

// size is how far a clamped number is from 0.
func size(n int) int {
	return max(n, -n)
}
