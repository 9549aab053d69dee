package array

import (
	"slices"

	"typeball/ratio"
)

// Shape returns the lengths of the axes.
func (a Array) Shape() []int { return slices.Clone(a.dims[:a.Rank()]) }

// Rank returns the number of axes.
func (a Array) Rank() int { return 1 + a.more }

// Len returns the number of elements.
func (a Array) Len() int {
	if a.char {
		return len(a.text)
	}
	return len(a.nums)
}

// IsChar reports whether the array is of characters, also if it has no elements.
func (a Array) IsChar() bool { return a.char }

// Rat returns the number at index i; 0 if there is none.
func (a Array) Rat(i int) ratio.Rat {
	if i < 0 || i >= len(a.nums) {
		return ratio.Rat{}
	}
	return a.nums[i]
}

// Rune returns the character at index i; 0 if there is none.
func (a Array) Rune(i int) rune {
	if i < 0 || i >= len(a.text) {
		return 0
	}
	return a.text[i]
}

// Rats returns all numbers.
func (a Array) Rats() []ratio.Rat { return slices.Clone(a.nums) }

// Runes returns all characters.
func (a Array) Runes() []rune { return slices.Clone(a.text) }

// Whole returns all elements as integers of 64 bits, and true; false if one is no
// such integer, as no character is.
func (a Array) Whole() ([]int, bool) {
	if len(a.text) > 0 {
		return nil, false
	}
	l := make([]int, len(a.nums))
	for i, x := range a.nums {
		n, ok := x.Int()
		if !ok {
			return nil, false
		}
		l[i] = n
	}
	return l, true
}

// Limbs returns the limbs of the number that has the most; 0 without numbers.
func (a Array) Limbs() int {
	most := 0
	for _, x := range a.nums {
		most = max(most, x.Limbs())
	}
	return most
}

// What an array takes of a workspace.
const (
	arrayBytes = 16
	axisBytes  = 4
	charBytes  = 1
	numBytes   = 8
	limbBytes  = 4
)

// Bytes returns what the array takes of a workspace.
func (a Array) Bytes() int {
	n := arrayBytes + axisBytes*a.Rank() + charBytes*len(a.text)
	for _, x := range a.nums {
		n += numBytes + limbBytes*(x.Top().Limbs()+x.Bot().Limbs())
	}
	return n
}

// Same reports whether two arrays have the same shape, kind and elements.
func Same(a, b Array) bool {
	return a.char == b.char && a.more == b.more && a.dims == b.dims &&
		slices.Equal(a.text, b.text) && slices.EqualFunc(a.nums, b.nums, equal)
}

// equal reports whether two numbers are equal.
func equal(x, y ratio.Rat) bool { return x.Cmp(y) == 0 }
