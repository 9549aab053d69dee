package array

import (
	"typeball/api"
	"typeball/ratio"
)

// Plain returns the array with its numbers as digits.
func (a Array) Plain() api.Plain {
	p := api.Plain{Shape: a.Shape(), Char: a.char, Text: a.Runes()}
	for _, x := range a.nums {
		p.Nums = append(p.Nums, x.Num())
	}
	return p
}

// Of returns the array whose Plain is p, and true; the zero value and false if
// there is none.
func Of(p api.Plain) (Array, bool) {
	if p.Char {
		if len(p.Nums) > 0 {
			return Array{}, false
		}
		return Chars(p.Shape, p.Text...)
	}
	if len(p.Text) > 0 {
		return Array{}, false
	}
	nums, ok := rats(p.Nums)
	if !ok {
		return Array{}, false
	}
	return Nums(p.Shape, nums...)
}

// rats reads numbers, and returns true; false if one is none.
func rats(l []api.Num) ([]ratio.Rat, bool) {
	nums := make([]ratio.Rat, len(l))
	for i, n := range l {
		x, ok := ratio.Of(n)
		if !ok {
			return nil, false
		}
		nums[i] = x
	}
	return nums, true
}
