package impl

import (
	"slices"
	"strconv"
	"strings"
)

const (
	ErrNone = iota
	ErrInvalid
	ErrRange
	ErrLimit
	ErrNotFound
	ErrState
	ErrSyntax
)

const (
	MaxValue  = 1000000000000
	MaxSquare = 4000000000000000000
	MaxList   = 200
)

// greatestRoot is the root of MaxSquare; no candidate above it is tried, so that the square of a
// candidate always fits into 64 bits.
const greatestRoot = 2000000000

// QuotientBounds returns the quotient a / b rounded down, the same rounded up, and ErrNone.
// Errors, in this order: ErrRange if a or b is not a value; ErrState if b is 0.
func QuotientBounds(a int64, b int64) (int64, int64, int64) {
	if code := divisionError(a, b); code != ErrNone {
		return 0, 0, code
	}
	return floorQuotient(a, b), ceilingQuotient(a, b), ErrNone
}

// NearestQuotient returns the nearest integer of a / b, and ErrNone. Errors: as for
// QuotientBounds.
func NearestQuotient(a int64, b int64) (int64, int64) {
	if code := divisionError(a, b); code != ErrNone {
		return 0, code
	}
	return nearestQuotient(a, b), ErrNone
}

// RootBounds returns the greatest integer whose square is at most n, the least one of at least 0
// whose square is at least n, and ErrNone. Errors: ErrRange if n is not in 0..MaxSquare.
func RootBounds(n int64) (int64, int64, int64) {
	if n < 0 || n > MaxSquare {
		return 0, 0, ErrRange
	}
	down := rootDown(n)
	if down*down == n {
		return down, down, ErrNone
	}
	return down, down + 1, ErrNone
}

// CommonDivisor returns the greatest integer of at least 0 that divides a and b, which is 0 if
// both are 0, and ErrNone. Errors: ErrRange if a or b is not a value.
func CommonDivisor(a int64, b int64) (int64, int64) {
	if !isValue(a) || !isValue(b) {
		return 0, ErrRange
	}
	return greatestDivisor(a, b), ErrNone
}

// MedianOf returns the element of a list with the index (n - 1) / 2, rounded down, of the n
// elements sorted in ascending order, and ErrNone. Errors, in this order: ErrLimit if list has
// more than MaxList elements; ErrRange if an element is not a value; ErrNotFound if list is
// empty.
func MedianOf(list []int64) (int64, int64) {
	if len(list) > MaxList {
		return 0, ErrLimit
	}
	for _, x := range list {
		if !isValue(x) {
			return 0, ErrRange
		}
	}
	if len(list) == 0 {
		return 0, ErrNotFound
	}
	sorted := slices.Clone(list)
	slices.Sort(sorted)
	return sorted[(len(sorted)-1)/2], ErrNone
}

// IsRising reports whether list is strictly increasing and all of its elements are in 0..n - 1;
// the empty list always is.
func IsRising(list []int64, n int64) bool {
	for i, x := range list {
		if x < 0 || x >= n {
			return false
		}
		if i > 0 && x <= list[i-1] {
			return false
		}
	}
	return true
}

// MetresText returns the text of a number of centimetres, or "" if n is not a value.
func MetresText(n int64) string {
	if !isValue(n) {
		return ""
	}
	sign := ""
	if n < 0 {
		sign = "-"
	}
	n = absolute(n)
	decimals := string([]byte{byte('0' + n/10%10), byte('0' + n%10)})
	return sign + strconv.FormatInt(n/100, 10) + "." + decimals
}

// ReadMetres returns the value with the text s, and true, or 0 and false if there is none.
func ReadMetres(s string) (int64, bool) {
	dot := len(s) - 3
	if dot < 0 || s[dot] != '.' {
		return 0, false
	}
	n, err := strconv.ParseInt(s[:dot]+s[dot+1:], 10, 64)
	// The parser also takes signs and zeros that no text has; only the text of n itself counts.
	if err != nil || MetresText(n) != s {
		return 0, false
	}
	return n, true
}

// readPair returns the numbers before and behind the first separator of s, and true, or zeros and
// false if they are not both there. It also takes signs and zeros that no text has, so that a
// caller has to compare s with the text of what was read.
func readPair(s string, separator string) (int64, int64, bool) {
	left, right, _ := strings.Cut(s, separator)
	first, err := strconv.ParseInt(left, 10, 64)
	if err != nil {
		return 0, 0, false
	}
	second, err := strconv.ParseInt(right, 10, 64)
	if err != nil {
		return 0, 0, false
	}
	return first, second, true
}

func isValue(x int64) bool {
	return x >= -MaxValue && x <= MaxValue
}

func absolute(x int64) int64 {
	if x < 0 {
		return -x
	}
	return x
}

// signed are the types of integers whose common divisors are searched.
type signed interface {
	~int | ~int64
}

// greatestDivisor returns the greatest integer of at least 0 that divides a and b, which are not
// the least number of their type, because that one has no opposite.
func greatestDivisor[T signed](a T, b T) T {
	for b != 0 {
		a, b = b, a%b
	}
	return max(a, -a)
}

// divisionError returns the error of a quotient a / b, or ErrNone.
func divisionError(a int64, b int64) int64 {
	if !isValue(a) || !isValue(b) {
		return ErrRange
	}
	if b == 0 {
		return ErrState
	}
	return ErrNone
}

// floorQuotient returns a / b rounded down; Go itself rounds towards 0.
func floorQuotient(a int64, b int64) int64 {
	quotient := a / b
	rest := a % b
	if rest != 0 && (rest < 0) != (b < 0) {
		return quotient - 1
	}
	return quotient
}

// ceilingQuotient returns a / b rounded up.
func ceilingQuotient(a int64, b int64) int64 {
	return -floorQuotient(-a, b)
}

// nearestQuotient returns the nearest integer of a / b, which need not be values.
func nearestQuotient(a int64, b int64) int64 {
	down := floorQuotient(a, b)
	// The distances to down and to down + 1, both times the absolute value of b.
	below := absolute(a - down*b)
	above := absolute(b) - below
	isTie := below == above
	if below > above || isTie && down%2 != 0 {
		return down + 1
	}
	return down
}

// rootDown returns the greatest integer whose square is at most n, for n in 0..MaxSquare. Halving
// the candidates stays exact where a root in floating point would not.
func rootDown(n int64) int64 {
	low, high := int64(0), int64(greatestRoot)
search:
	for low < high {
		middle := (low + high + 1) / 2
		square := middle * middle
		switch {
		case square == n:
			low = middle
			break search
		case square < n:
			low = middle
		default:
			high = middle - 1
		}
	}
	return low
}
