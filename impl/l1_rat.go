package impl

import (
	"cmp"
	"strconv"
	"strings"
)

// MaxSize is the greatest size of a numerator and of a denominator.
const MaxSize = 1000000000

// maxGiven is the greatest size of the numbers that MakeRat takes.
const maxGiven = MaxSize * MaxSize

// Rat is a fraction.
type Rat struct {
	Num int
	Den int
}

// IsRat reports whether a fraction is valid.
func IsRat(a Rat) bool {
	if a.Den < 1 || a.Den > MaxSize || a.Num < -MaxSize || a.Num > MaxSize {
		return false
	}
	return commonDivisor(a.Num, a.Den) == 1
}

// MakeRat returns num / den, for two numbers in -1000000000000000000..1000000000000000000, of which den is not 0.
func MakeRat(num int, den int) (Rat, bool) {
	if num < -maxGiven || num > maxGiven || den < -maxGiven || den > maxGiven || den == 0 {
		return Rat{}, false
	}
	return reduceRat(num, den)
}

// AddRats returns the sum of two fractions.
func AddRats(a Rat, b Rat) (Rat, bool) {
	return combineRats(a, b, func() (int, int) {
		return a.Num*b.Den + b.Num*a.Den, a.Den * b.Den
	})
}

// SubtractRats returns a minus b.
func SubtractRats(a Rat, b Rat) (Rat, bool) {
	return combineRats(a, b, func() (int, int) {
		return a.Num*b.Den - b.Num*a.Den, a.Den * b.Den
	})
}

// MultiplyRats returns the product of two fractions.
func MultiplyRats(a Rat, b Rat) (Rat, bool) {
	return combineRats(a, b, func() (int, int) {
		return a.Num * b.Num, a.Den * b.Den
	})
}

// DivideRats returns a divided by b. It fails for b = 0.
func DivideRats(a Rat, b Rat) (Rat, bool) {
	return combineRats(a, b, func() (int, int) {
		return a.Num * b.Den, a.Den * b.Num
	})
}

// CompareRats returns -1, 0 or 1 if a is less than, equal to or greater than b.
func CompareRats(a Rat, b Rat) (int, bool) {
	if !IsRat(a) || !IsRat(b) {
		return 0, false
	}
	return orderOf(a, b), true
}

// FloorOf returns the greatest integer that is not greater than a.
func FloorOf(a Rat) (int, bool) {
	if !IsRat(a) {
		return 0, false
	}
	return floorQuotient(a.Num, a.Den), true
}

// RoundDownTo returns the greatest multiple of 1 / den, for den in 1..MaxSize, that is not greater than a.
func RoundDownTo(a Rat, den int) (Rat, bool) {
	if !IsRat(a) || den < 1 || den > MaxSize {
		return Rat{}, false
	}
	return reduceRat(floorQuotient(a.Num*den, a.Den), den)
}

// MiddleOf returns half the sum of two fractions. The sum itself may be too large to be a fraction.
func MiddleOf(a Rat, b Rat) (Rat, bool) {
	return combineRats(a, b, func() (int, int) {
		return a.Num*b.Den + b.Num*a.Den, 2 * a.Den * b.Den
	})
}

// RatText returns Num, with a sign - for negative ones, a slash, and Den, both in decimal.
func RatText(a Rat) (string, bool) {
	if !IsRat(a) {
		return "", false
	}
	return strconv.Itoa(a.Num) + "/" + strconv.Itoa(a.Den), true
}

// ParseRat returns the fraction with a RatText. It fails if there is none.
func ParseRat(s string) (Rat, bool) {
	top, bottom, _ := strings.Cut(s, "/")
	digits, negative := strings.CutPrefix(top, "-")
	num, ok := readDigits(digits)
	if !ok {
		return Rat{}, false
	}
	if negative {
		num = -num
	}
	den, ok := readDigits(bottom)
	if !ok {
		return Rat{}, false
	}
	a := Rat{Num: num, Den: den}
	// A fraction has one text alone: this leaves out missing digits, leading zeros and a signed 0.
	if text, ok := RatText(a); !ok || text != s {
		return Rat{}, false
	}
	return a, true
}

// combineRats returns the reduced result of an operation on two valid fractions, and fails if it has the denominator 0.
// The operations multiply parts of up to MaxSize, and add two such products or double one: this fits into an int,
// but not always into what MakeRat takes.
func combineRats(a Rat, b Rat, operation func() (int, int)) (Rat, bool) {
	if !IsRat(a) || !IsRat(b) {
		return Rat{}, false
	}
	num, den := operation()
	if den == 0 {
		return Rat{}, false
	}
	return reduceRat(num, den)
}

// orderOf compares two valid fractions as CompareRats does.
func orderOf(a Rat, b Rat) int {
	return cmp.Compare(a.Num*b.Den, b.Num*a.Den)
}

// reduceRat returns num / den in lowest terms, for a den that is not 0, and fails if this is too large.
func reduceRat(num int, den int) (Rat, bool) {
	if den < 0 {
		num, den = -num, -den
	}
	common := commonDivisor(num, den)
	a := Rat{Num: num / common, Den: den / common}
	if a.Den > MaxSize || a.Num < -MaxSize || a.Num > MaxSize {
		return Rat{}, false
	}
	return a, true
}

// commonDivisor returns the greatest common divisor of a number and a positive one.
func commonDivisor(a int, b int) int {
	if a < 0 {
		a = -a
	}
	for a != 0 {
		a, b = b%a, a
	}
	return b
}

// floorQuotient returns the greatest integer that is not greater than a / b, for a positive b.
func floorQuotient(a int, b int) int {
	q := a / b
	if a%b < 0 {
		q--
	}
	return q
}

// readDigits returns the number that decimal digits show, 0 for none, and fails if it is greater than MaxSize.
func readDigits(s string) (int, bool) {
	n := 0
	for _, r := range s {
		if r < '0' || r > '9' {
			return 0, false
		}
		n = 10*n + int(r-'0')
		if n > MaxSize {
			return 0, false
		}
	}
	return n, true
}
