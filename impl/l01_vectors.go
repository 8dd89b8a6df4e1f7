package impl

import (
	"cmp"
	"strconv"
	"strings"
)

const (
	ErrNone = iota
	ErrInvalid
	ErrRange
	ErrLimit
	ErrNotFound
	ErrState
	ErrSyntax
)

const MaxCoordinate = 1000

// maxDividend bounds the numbers of DivisorOf in both directions.
const maxDividend = 1000000

type Vec struct {
	X int64
	Y int64
}

func (v Vec) isValid() bool {
	return isWithin(v.X, MaxCoordinate) && isWithin(v.Y, MaxCoordinate)
}

// plus, times and cross do not overflow for valid vectors and for factors within MaxCoordinate;
// their callers check this first.
func (v Vec) plus(u Vec) Vec { return Vec{X: v.X + u.X, Y: v.Y + u.Y} }

func (v Vec) times(n int64) Vec { return Vec{X: v.X * n, Y: v.Y * n} }

func (v Vec) cross(u Vec) int64 { return v.X*u.Y - v.Y*u.X }

func (v Vec) compare(u Vec) int {
	return cmp.Or(cmp.Compare(v.X, u.X), cmp.Compare(v.Y, u.Y))
}

func (v Vec) text() string { return numbersText(v.X, v.Y) }

// isWithin compares with both ends instead of taking an absolute value, which the least int64 does
// not have.
func isWithin(n int64, limit int64) bool { return -limit <= n && n <= limit }

// limitedVec is the last check of the functions whose result is a vector.
func limitedVec(v Vec) (Vec, int64) {
	if !v.isValid() {
		return Vec{}, ErrLimit
	}
	return v, ErrNone
}

func greatestDivisor(a int64, b int64) int64 {
	for b != 0 {
		a, b = b, a%b
	}
	return max(a, -a)
}

// readNumber accepts only what FormatInt writes, as ParseInt alone would also take a plus sign,
// leading zeros and -0.
func readNumber(s string) (int64, bool) {
	n, err := strconv.ParseInt(s, 10, 64)
	if err != nil || strconv.FormatInt(n, 10) != s {
		return 0, false
	}
	return n, true
}

func numbersText(numbers ...int64) string {
	var parts []string
	for _, n := range numbers {
		parts = append(parts, strconv.FormatInt(n, 10))
	}
	return strings.Join(parts, ",")
}

// readNumbers reads a text of just so many numbers; there are none beside false.
func readNumbers(s string, count int) ([]int64, bool) {
	parts := strings.Split(s, ",")
	if len(parts) != count {
		return nil, false
	}
	var numbers []int64
	for _, part := range parts {
		n, ok := readNumber(part)
		if !ok {
			return nil, false
		}
		numbers = append(numbers, n)
	}
	return numbers, true
}

// IsVec reports whether v is valid.
func IsVec(v Vec) bool { return v.isValid() }

// AddVecs returns the sum of two vectors, and ErrNone.
func AddVecs(u Vec, v Vec) (Vec, int64) {
	if !u.isValid() || !v.isValid() {
		return Vec{}, ErrInvalid
	}
	return limitedVec(u.plus(v))
}

// ScaleVec returns n times a vector, and ErrNone. Errors: ErrRange if n is not in
// -MaxCoordinate..MaxCoordinate.
func ScaleVec(v Vec, n int64) (Vec, int64) {
	if !v.isValid() {
		return Vec{}, ErrInvalid
	}
	if !isWithin(n, MaxCoordinate) {
		return Vec{}, ErrRange
	}
	return limitedVec(v.times(n))
}

// DetOf returns u.X * v.Y - u.Y * v.X, and ErrNone.
func DetOf(u Vec, v Vec) (int64, int64) {
	if !u.isValid() || !v.isValid() {
		return 0, ErrInvalid
	}
	return u.cross(v), ErrNone
}

// DivisorOf returns the greatest common divisor of two numbers, 0 if both are 0, and ErrNone. It
// returns 0 and ErrRange if one of them is not in -1000000..1000000.
func DivisorOf(a int64, b int64) (int64, int64) {
	if !isWithin(a, maxDividend) || !isWithin(b, maxDividend) {
		return 0, ErrRange
	}
	return greatestDivisor(a, b), ErrNone
}

// PrimitiveVec returns the vector whose numbers are those of v divided by their greatest common
// divisor, this divisor, and ErrNone. Errors: ErrState if v is 0,0.
func PrimitiveVec(v Vec) (Vec, int64, int64) {
	if !v.isValid() {
		return Vec{}, 0, ErrInvalid
	}
	d := greatestDivisor(v.X, v.Y)
	if d == 0 {
		return Vec{}, 0, ErrState
	}
	return Vec{X: v.X / d, Y: v.Y / d}, d, ErrNone
}

// CompareVecs returns -1, 0 or 1 if u comes before v, is equal to it or comes behind it, and
// ErrNone.
func CompareVecs(u Vec, v Vec) (int64, int64) {
	if !u.isValid() || !v.isValid() {
		return 0, ErrInvalid
	}
	return int64(u.compare(v)), ErrNone
}

// VecText returns the text of a vector, or "" if it is not valid.
func VecText(v Vec) string {
	if !v.isValid() {
		return ""
	}
	return v.text()
}

// ReadVec returns the valid vector with the text s, and true, or the zero value and false if
// there is none.
func ReadVec(s string) (Vec, bool) {
	numbers, ok := readNumbers(s, 2)
	if !ok {
		return Vec{}, false
	}
	v := Vec{X: numbers[0], Y: numbers[1]}
	if !v.isValid() {
		return Vec{}, false
	}
	return v, true
}
