package nat

import "math/bits"

// Shl returns the number times 2 to the power n; a negative n counts as 0.
func (a Nat) Shl(n int) Nat {
	whole, part := shift(n)
	// Beyond the bound nothing is promised: 0 is better than no memory left.
	if a.Zero() || whole > mostLimbs-len(a.limbs) {
		return Nat{}
	}
	limbs := make([]uint32, whole+len(a.limbs)+1)
	copy(limbs[whole:], a.limbs)
	shiftUp(limbs[whole:], part)
	return trimmed(limbs)
}

// Shr returns the number divided by 2 to the power n, rounded down; a negative n
// counts as 0.
func (a Nat) Shr(n int) Nat {
	whole, part := shift(n)
	if whole >= len(a.limbs) {
		return Nat{}
	}
	limbs := copied(a.limbs[whole:], len(a.limbs)-whole)
	shiftDown(limbs, part)
	return trimmed(limbs)
}

// shift returns by how many limbs, and then by how many bits, n shifts.
func shift(n int) (int, int) {
	n = max(n, 0)
	return n / limbBits, n % limbBits
}

// shiftUp shifts the limbs in place by less than a limb. The bits beyond the last
// limb are lost.
func shiftUp(limbs []uint32, by int) {
	var carry uint32
	for i := range len(limbs) {
		limbs[i], carry = limbs[i]<<by|carry, limbs[i]>>(limbBits-by)
	}
}

// shiftDown shifts the limbs in place by less than a limb. The bits below the
// first limb are lost.
func shiftDown(limbs []uint32, by int) {
	for i := range len(limbs) {
		limbs[i] = limbs[i]>>by | limbAt(limbs, i+1)<<(limbBits-by)
	}
}

// Pow returns a to the power n and true; a negative n counts as 0. It returns 0
// and false if the power has more than most limbs and is none of 0 and 1.
func (a Nat) Pow(n, most int) (Nat, bool) {
	if n <= 0 || a.One() {
		return Of(1), true
	}
	if a.Zero() {
		return Nat{}, true
	}
	// Beyond the bound nothing is promised: no memory is spent on such a power.
	most = min(most, mostLimbs)
	if a.surelyLonger(n, most) {
		return Nat{}, false
	}
	power := Of(1)
	digits := bits.Len(uint(n))
	for i := range digits {
		power = power.Mul(power)
		if n>>(digits-1-i)%2 == 1 {
			power = power.Mul(a)
		}
		// The powers on the way are not greater than the last one.
		if power.Limbs() > most {
			return Nat{}, false
		}
	}
	return power, true
}

// surelyLonger reports whether the sizes alone tell that a to the power n has more
// than most limbs: no memory is then spent on it. The number a is at least 2.
func (a Nat) surelyLonger(n, most int) bool {
	// The power has more than n * (a.Bits() - 1) bits.
	over, size := bits.Mul64(uint64(n), uint64(a.Bits()-1))
	return most < 1 || over > 0 || size/limbBits >= uint64(most)
}
