// Package nat computes with natural numbers of any size.
package nat

import "math/bits"

const (
	limbBits = 32

	// mostLimbs is the most that the document promises a result for: a number
	// with more limbs than these has more than 2^31 - 1 bytes.
	mostLimbs = 1 << 29
)

// Nat is a natural number: its limbs, the least one first, the last one not 0.
// The zero value is 0. Limbs are never changed once they are a number's.
type Nat struct{ limbs []uint32 }

// Of returns the number n.
func Of(n uint64) Nat {
	return trimmed([]uint32{uint32(n), uint32(n >> limbBits)})
}

// Zero reports whether the number is 0.
func (a Nat) Zero() bool { return len(a.limbs) == 0 }

// One reports whether the number is 1.
func (a Nat) One() bool { return len(a.limbs) == 1 && a.limbs[0] == 1 }

// Even reports whether the number is divisible by 2.
func (a Nat) Even() bool { return a.Zero() || a.limbs[0]%2 == 0 }

// Limbs returns the least number of limbs in which the number can be written.
func (a Nat) Limbs() int { return len(a.limbs) }

// Bits returns the least number of bits in which the number can be written.
func (a Nat) Bits() int {
	if a.Zero() {
		return 0
	}
	last := len(a.limbs) - 1
	return last*limbBits + bits.Len32(a.limbs[last])
}

// Uint returns the number and true; 0 and false if it has more than 64 bits.
func (a Nat) Uint() (uint64, bool) {
	if a.Bits() > 64 {
		return 0, false
	}
	var n uint64
	for i := range len(a.limbs) {
		n |= uint64(a.limbs[i]) << (i * limbBits)
	}
	return n, true
}

// Cmp returns -1, 0 or 1 if a is less than, equal to or greater than b.
func (a Nat) Cmp(b Nat) int {
	n := len(a.limbs)
	if n != len(b.limbs) {
		return order(n < len(b.limbs))
	}
	for i := range n {
		x, y := a.limbs[n-1-i], b.limbs[n-1-i]
		if x != y {
			return order(x < y)
		}
	}
	return 0
}

// order returns what Cmp returns for two numbers that are not equal.
func order(less bool) int {
	if less {
		return -1
	}
	return 1
}

// trimmed returns the number that the limbs are, of which the last ones may be 0.
// It keeps the limbs.
func trimmed(limbs []uint32) Nat {
	n := len(limbs)
	for n > 0 && limbs[n-1] == 0 {
		n--
	}
	if n == 0 {
		return Nat{}
	}
	return Nat{limbs[:n]}
}

// copied returns n new limbs that begin with those given, of which there are at most n.
func copied(limbs []uint32, n int) []uint32 {
	all := make([]uint32, n)
	copy(all, limbs)
	return all
}
