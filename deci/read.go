package deci

import (
	"strconv"

	"typeball/nat"
	"typeball/ratio"
	"typeball/whole"
)

// mostExponentDigits is the most digits of an exponent.
const mostExponentDigits = 3

// reader is a line, and the index up to which it has been read.
type reader struct {
	line []rune
	at   int
}

// Read reads as much of a number as possible from the index at on. It returns the
// number, the index after it, and true; 0, 0 and false if there is none.
func Read(l []rune, at int) (ratio.Rat, int, bool) {
	if !Begins(l, at) {
		return ratio.Rat{}, 0, false
	}
	r := reader{l, at}
	neg := r.skip(High)
	digits, places, okDigits := r.mantissa()
	e, okExponent := r.exponent()
	if !okDigits || !okExponent {
		return ratio.Rat{}, 0, false
	}
	return valueOf(neg, digits, e-places), r.at, true
}

// valueOf returns the integer with these digits times 10 to the power e.
func valueOf(neg bool, digits string, e int) ratio.Rat {
	size, _ := nat.Parse(digits)
	top := whole.Of(neg, size.Mul(tenTo(e)))
	// The divisor is a power of 10, so never 0.
	a, _ := ratio.New(top, whole.Of(false, tenTo(-e)))
	return a
}

// mantissa reads digits, and perhaps a point and more digits. It returns all of
// them, how many stand after the point, and whether they are as they must be.
func (r *reader) mantissa() (string, int, bool) {
	digits := r.digits()
	places := 0
	if r.skip(point) {
		behind := r.digits()
		places = len(behind)
		if places == 0 {
			return "", 0, false
		}
		digits += behind
	}
	ok := len(digits) > 0 && len(digits) <= MostDigits
	return digits, places, ok
}

// exponent reads what follows the digits, if E does. It returns the exponent, 0
// without one, and whether it is as it must be.
func (r *reader) exponent() (int, bool) {
	if !r.skip(tens) {
		return 0, true
	}
	neg := r.skip(High)
	digits := r.digits()
	if len(digits) == 0 || len(digits) > mostExponentDigits {
		return 0, false
	}
	e, _ := strconv.Atoi(digits)
	if neg {
		return -e, true
	}
	return e, true
}

// skip reads the character c if it is the next one, and reports whether it is.
func (r *reader) skip(c rune) bool {
	if r.at == len(r.line) || r.line[r.at] != c {
		return false
	}
	r.at++
	return true
}

// digits reads as many digits as there are.
func (r *reader) digits() string {
	from := r.at
	for r.at < len(r.line) && isDigit(r.line[r.at]) {
		r.at++
	}
	return string(r.line[from:r.at])
}
