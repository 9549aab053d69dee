package nat

import "math/bits"

// Add returns the sum.
func (a Nat) Add(b Nat) Nat {
	if len(a.limbs) < len(b.limbs) {
		a, b = b, a
	}
	sum := copied(a.limbs, len(a.limbs)+1)
	addTo(sum, b.limbs)
	return trimmed(sum)
}

// addTo adds part, which is not longer, to sum. What is carried out of the last
// limb is lost.
func addTo(sum, part []uint32) {
	var carry uint32
	for i := range len(sum) {
		sum[i], carry = bits.Add32(sum[i], limbAt(part, i), carry)
	}
}

// limbAt returns a limb; 0 behind the last one.
func limbAt(limbs []uint32, i int) uint32 {
	if i < len(limbs) {
		return limbs[i]
	}
	return 0
}

// Sub returns the difference and true; 0 and false if b is greater than a.
func (a Nat) Sub(b Nat) (Nat, bool) {
	if a.Cmp(b) < 0 {
		return Nat{}, false
	}
	rest := copied(a.limbs, len(a.limbs))
	takeTimes(rest, b.limbs, 1)
	return trimmed(rest), true
}

// takeTimes takes part by times from rest, which has room for as much, and reports
// whether rest was too small: it has then gone below 0 and round to the top.
func takeTimes(rest, part []uint32, by uint32) bool {
	var product uint64
	var borrow uint32
	for i := range len(rest) {
		product += uint64(limbAt(part, i)) * uint64(by)
		rest[i], borrow = bits.Sub32(rest[i], uint32(product), borrow)
		product >>= limbBits
	}
	return borrow > 0
}

// Mul returns the product.
func (a Nat) Mul(b Nat) Nat {
	product := make([]uint32, len(a.limbs)+len(b.limbs))
	for i := range len(b.limbs) {
		addTimes(product[i:], a.limbs, b.limbs[i])
	}
	return trimmed(product)
}

// addTimes adds part by times to sum, in which the limb behind part's last one is
// there and still 0.
func addTimes(sum, part []uint32, by uint32) {
	var carry uint64
	for i := range len(part) {
		carry += uint64(part[i])*uint64(by) + uint64(sum[i])
		sum[i] = uint32(carry)
		carry >>= limbBits
	}
	sum[len(part)] = uint32(carry)
}
