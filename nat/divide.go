package nat

import "math/bits"

// DivMod returns the quotient, rounded down, the remainder, and true; 0, 0 and
// false if b is 0.
func (a Nat) DivMod(b Nat) (Nat, Nat, bool) {
	if b.Zero() {
		return Nat{}, Nat{}, false
	}
	if a.Cmp(b) < 0 {
		return Nat{}, trimmed(copied(a.limbs, len(a.limbs))), true
	}
	if len(b.limbs) == 1 {
		quotient := copied(a.limbs, len(a.limbs))
		rest := divideBy(quotient, b.limbs[0])
		return trimmed(quotient), Of(uint64(rest)), true
	}
	quotient, rest := divideLong(a.limbs, b.limbs)
	return trimmed(quotient), trimmed(rest), true
}

// divideBy divides the limbs in place by a number that is not 0, and returns the
// remainder.
func divideBy(limbs []uint32, by uint32) uint32 {
	var rest uint32
	n := len(limbs)
	for i := range n {
		limbs[n-1-i], rest = bits.Div32(rest, limbs[n-1-i], by)
	}
	return rest
}

// divideLong returns quotient and remainder of a by b, which has at least two
// limbs and not more than a.
func divideLong(a, b []uint32) ([]uint32, []uint32) {
	// A guess at a digit is off by 2 at most only if the divisor's highest bit is
	// set: so both are shifted up first, and the remainder down again.
	up := bits.LeadingZeros32(b[len(b)-1])
	by := copied(b, len(b))
	shiftUp(by, up)
	rest := copied(a, len(a)+1)
	shiftUp(rest, up)
	quotient := make([]uint32, len(rest)-len(by))
	for i := range len(quotient) {
		at := len(quotient) - 1 - i
		quotient[at] = takeDigit(rest[at:at+len(by)+1], by)
	}
	rest = rest[:len(by)]
	shiftDown(rest, up)
	return quotient, rest
}

// takeDigit takes by from rest as often as it can, and returns how often. Rest
// has one limb more, and is less than by with one limb 0 below it.
func takeDigit(rest, by []uint32) uint32 {
	digit := guessDigit(rest, by)
	if takeTimes(rest, by, digit) {
		digit--
		addTo(rest, by)
	}
	return digit
}

// guessDigit returns what takeDigit returns, or 1 more: it looks at the first
// three limbs of rest and the first two of by.
func guessDigit(rest, by []uint32) uint32 {
	const unit = 1 << limbBits
	n := len(by)
	first := uint64(rest[n])<<limbBits | uint64(rest[n-1])
	digit, left := first/uint64(by[n-1]), first%uint64(by[n-1])
	for left < unit && (digit >= unit || digit*uint64(by[n-2]) > left<<limbBits|uint64(rest[n-2])) {
		digit--
		left += uint64(by[n-1])
	}
	return uint32(digit)
}

// Gcd returns the greatest number that divides both; for 0 and another number
// that number.
func (a Nat) Gcd(b Nat) Nat {
	for !b.Zero() {
		_, rest, _ := a.DivMod(b)
		a, b = b, rest
	}
	return trimmed(copied(a.limbs, len(a.limbs)))
}
