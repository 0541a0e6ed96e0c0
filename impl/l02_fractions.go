package impl

import "strings"

// MaxNum is the greatest numerator and the greatest denominator of a fraction.
const MaxNum = 1000000000

// maxWide is the greatest number that MakeFraction takes: a product of two numbers of plain fractions.
// A sum of two such products is an int64 as well, so no function of this chapter overflows.
const maxWide = MaxNum * MaxNum

// Fraction is the number Num / Den.
type Fraction struct {
	Num int64
	Den int64
}

// ValidFraction reports whether f is plain.
func ValidFraction(f Fraction) bool {
	if f.Den < 1 || f.Den > MaxNum || f.Num < -MaxNum || f.Num > MaxNum {
		return false
	}
	return commonDivisor(f.Num, f.Den) == 1
}

// MakeFraction returns the fraction of two numbers in lowest terms.
func MakeFraction(num, den int64) (Fraction, int64) {
	if num < -maxWide || num > maxWide || den < -maxWide || den > maxWide || den == 0 {
		return Fraction{}, ErrRange
	}
	return lowestTerms(num, den)
}

// CompareFractions compares two fractions.
func CompareFractions(a, b Fraction) (int64, int64) {
	if !ValidFraction(a) || !ValidFraction(b) {
		return 0, ErrInvalid
	}
	// Each number has just one plain fraction.
	if a == b {
		return 0, OK
	}
	if crossDifference(a, b) < 0 {
		return -1, OK
	}
	return 1, OK
}

// AddFractions returns the sum of two fractions.
func AddFractions(a, b Fraction) (Fraction, int64) {
	if !ValidFraction(a) || !ValidFraction(b) {
		return Fraction{}, ErrInvalid
	}
	return lowestTerms(a.Num*b.Den+b.Num*a.Den, a.Den*b.Den)
}

// SubFractions returns the difference of two fractions.
func SubFractions(a, b Fraction) (Fraction, int64) {
	return AddFractions(a, b.opposite())
}

// MulFractions returns the product of two fractions.
func MulFractions(a, b Fraction) (Fraction, int64) {
	if !ValidFraction(a) || !ValidFraction(b) {
		return Fraction{}, ErrInvalid
	}
	return lowestTerms(a.Num*b.Num, a.Den*b.Den)
}

// DivFractions returns the quotient of two fractions.
func DivFractions(a, b Fraction) (Fraction, int64) {
	if !ValidFraction(a) || !ValidFraction(b) {
		return Fraction{}, ErrInvalid
	}
	if b.Num == 0 {
		return Fraction{}, ErrState
	}
	return MulFractions(a, b.inverse())
}

// FloorOf returns the greatest integer that is not greater than a fraction.
func FloorOf(f Fraction) (int64, int64) {
	if !ValidFraction(f) {
		return 0, ErrInvalid
	}
	return floorQuotient(f.Num, f.Den), OK
}

// MediantOf returns the mediant of two fractions.
func MediantOf(a, b Fraction) (Fraction, int64) {
	if !ValidFraction(a) || !ValidFraction(b) {
		return Fraction{}, ErrInvalid
	}
	return lowestTerms(a.Num+b.Num, a.Den+b.Den)
}

// AreNeighbours reports whether two fractions are neighbours.
func AreNeighbours(a, b Fraction) bool {
	if !ValidFraction(a) || !ValidFraction(b) {
		return false
	}
	d := crossDifference(a, b)
	return d == 1 || d == -1
}

// FractionText returns the text form of a fraction.
func FractionText(f Fraction) string {
	if !ValidFraction(f) {
		return ""
	}
	if f.Den == 1 {
		return Decimal(f.Num)
	}
	return Decimal(f.Num) + "/" + Decimal(f.Den)
}

// ReadFraction returns the fraction with a text form.
func ReadFraction(s string) (Fraction, bool) {
	num, den, found := strings.Cut(s, "/")
	if !found {
		den = "1"
	}
	n, numRead := ReadDecimal(num)
	d, denRead := ReadDecimal(den)
	f := Fraction{Num: n, Den: d}
	// The text is compared too, as 3/1 has the numbers of a plain fraction but is not its text.
	if !numRead || !denRead || !ValidFraction(f) || FractionText(f) != s {
		return Fraction{}, false
	}
	return f, true
}

// opposite returns -f, which is plain just if f is: even the smallest int64, which has no opposite, stays out of range.
func (f Fraction) opposite() Fraction {
	return Fraction{Num: -f.Num, Den: f.Den}
}

// inverse returns the plain fraction 1 / f of a plain fraction f that is not 0.
func (f Fraction) inverse() Fraction {
	if f.Num < 0 {
		return Fraction{Num: -f.Den, Den: -f.Num}
	}
	return Fraction{Num: f.Den, Den: f.Num}
}

// crossDifference has the sign of a - b for plain fractions a and b.
func crossDifference(a, b Fraction) int64 {
	return a.Num*b.Den - b.Num*a.Den
}

// lowestTerms returns the plain fraction that is equal to num / den, for numbers up to 2 * maxWide
// in absolute value, and den not 0.
func lowestTerms(num, den int64) (Fraction, int64) {
	g := commonDivisor(num, den)
	if den < 0 {
		g = -g
	}
	f := Fraction{Num: num / g, Den: den / g}
	if !ValidFraction(f) {
		return Fraction{}, ErrFull
	}
	return f, OK
}

// commonDivisor returns the greatest common divisor of two numbers other than the smallest int64;
// that of a number and 0 is the absolute value of the number.
func commonDivisor(a, b int64) int64 {
	for b != 0 {
		a, b = b, a%b
	}
	if a < 0 {
		return -a
	}
	return a
}

// floorQuotient returns a / b rounded down, where Go rounds towards 0; b is not 0.
func floorQuotient(a, b int64) int64 {
	q := a / b
	if a%b != 0 && (a < 0) != (b < 0) {
		q--
	}
	return q
}
