package nat

import (
	"slices"
	"strings"
)

const (
	// mostDigits is how many bytes a text may have that is read.
	mostDigits = 2000

	// A group is as many digits as fit into one limb.
	groupDigits = 9
	groupUnit   = 1000000000
)

// Parse returns the number whose decimal digits s consists of, and true; 0 and
// false if s is empty, too long, or has a byte that is not a digit.
func Parse(s string) (Nat, bool) {
	if len(s) == 0 || len(s) > mostDigits {
		return Nat{}, false
	}
	var limbs []uint32
	for i := range len(s) {
		if s[i] < '0' || s[i] > '9' {
			return Nat{}, false
		}
		limbs = timesPlus(limbs, 10, uint32(s[i]-'0'))
	}
	return trimmed(limbs), true
}

// timesPlus returns the limbs times by plus one more number, in the same memory
// as far as there is room.
func timesPlus(limbs []uint32, by, plus uint32) []uint32 {
	carry := uint64(plus)
	for i := range len(limbs) {
		carry += uint64(limbs[i]) * uint64(by)
		limbs[i] = uint32(carry)
		carry >>= limbBits
	}
	if carry > 0 {
		limbs = append(limbs, uint32(carry))
	}
	return limbs
}

// Text returns the decimal digits without leading zeros; 0 for 0.
func (a Nat) Text() string {
	if a.Zero() {
		return "0"
	}
	var digits []byte
	rest := copied(a.limbs, len(a.limbs))
	for len(rest) > 0 {
		group := divideBy(rest, groupUnit)
		rest = trimmed(rest).limbs
		for range groupDigits {
			digits = append(digits, byte('0'+group%10))
			group /= 10
		}
	}
	slices.Reverse(digits)
	return strings.TrimLeft(string(digits), "0")
}
