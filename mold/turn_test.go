package mold

import (
	"fmt"
	"math"
	"math/big"
	"slices"
	"testing"

	"typeball/api"
	"typeball/array"
	"typeball/ratio"
)

func TestAxis(t *testing.T) {
	for _, c := range []struct {
		s          []int
		axis, want int
		ok         bool
	}{
		{nil, -1, -1, false},
		{nil, -2, -1, false},
		{nil, math.MinInt, -1, false},
		{nil, 0, 0, false},
		{nil, 1, 1, false},
		{nil, math.MaxInt, math.MaxInt, false},
		{[]int{5}, -1, 0, true},
		{[]int{5}, -7, 0, true},
		{[]int{5}, 0, 0, true},
		{[]int{5}, 1, 1, false},
		{[]int{0}, -1, 0, true},
		{[]int{0}, 0, 0, true},
		{[]int{0}, 1, 1, false},
		{[]int{2, 3}, -1, 1, true},
		{[]int{2, 3}, -2, 1, true},
		{[]int{2, 3}, math.MinInt, 1, true},
		{[]int{2, 3}, 0, 0, true},
		{[]int{2, 3}, 1, 1, true},
		{[]int{2, 3}, 2, 2, false},
		{[]int{2, 3}, 3, 3, false},
		{[]int{2, 3}, math.MaxInt, math.MaxInt, false},
		{[]int{0, 3, 0}, -1, 2, true},
		{[]int{0, 3, 0}, 0, 0, true},
		{[]int{1, 1, 1, 1, 1, 1, 1, 1}, -1, 7, true},
		{[]int{1, 1, 1, 1, 1, 1, 1, 1}, 7, 7, true},
		{[]int{1, 1, 1, 1, 1, 1, 1, 1}, 8, 8, false},
	} {
		for _, a := range both(t, c.s) {
			if axis, ok := Axis(a, c.axis); axis != c.want || ok != c.ok {
				t.Errorf("axis %d of %v: %d and %v, not %d and %v", c.axis, c.s, axis, ok, c.want, c.ok)
			}
		}
	}
	if axis, ok := Axis(array.Array{}, -1); axis != 0 || !ok {
		t.Error("zero value:", axis, ok)
	}
}

func TestReverse(t *testing.T) {
	for _, c := range []struct {
		a    array.Array
		axis int
		want string
	}{
		{array.Ints(5, 6, 7), -1, "nums [3] 7 6 5"},
		{array.Ints(5, 6, 7), 0, "nums [3] 7 6 5"},
		{array.Text([]rune("abcd")), -9, "chars [4] dcba"},
		{array.Ints(5), 0, "nums [1] 5"},
		{array.Array{}, -1, "nums [0] "},
		{array.None(true), 0, "chars [0] "},
		{array.Int(5), -1, "nums [] 5"},
		{array.Num(half(2)), -2, "nums [] 5/2"},
		{array.Char('x'), math.MinInt, "chars [] x"},
		{letters(t, 2, 3), 0, "chars [2 3] DEFABC"},
		{letters(t, 2, 3), 1, "chars [2 3] CBAFED"},
		{letters(t, 2, 3), -1, "chars [2 3] CBAFED"},
		{numbers(t, 2, 2), 0, "nums [2 2] 5/2 7/2 1/2 3/2"},
		{letters(t, 2, 2, 3), 0, "chars [2 2 3] GHIJKLABCDEF"},
		{letters(t, 2, 2, 3), 1, "chars [2 2 3] DEFABCJKLGHI"},
		{letters(t, 2, 2, 3), 2, "chars [2 2 3] CBAFEDIHGLKJ"},
		{letters(t, 3, 0), 0, "chars [3 0] "},
		{letters(t, 3, 0), 1, "chars [3 0] "},
		{numbers(t, 0, 3), -1, "nums [0 3] "},
	} {
		a, e := Reverse(c.a, c.axis)
		is(t, fmt.Sprint("reverse of ", tell(c.a), " along ", c.axis), a, e, c.want)
	}
}

func TestReverseWrong(t *testing.T) {
	for _, s := range known {
		for _, a := range both(t, s) {
			for _, axis := range []int{len(s), len(s) + 1, 8, math.MaxInt} {
				b, e := Reverse(a, axis)
				fails(t, fmt.Sprint(s, " along ", axis), b, e, api.ErrRank)
			}
		}
	}
}

// TestReverseOfAll: along each axis, and twice, which is the array again (P8.5).
func TestReverseOfAll(t *testing.T) {
	for _, s := range known {
		for _, a := range both(t, s) {
			for axis := range s {
				b, e := Reverse(a, axis)
				same(t, fmt.Sprint(s, " along ", axis), b, e, built(t, a, s, func(idx []int) []int {
					idx[axis] = s[axis] - 1 - idx[axis]
					return idx
				}))
				twice, e := Reverse(b, axis)
				same(t, fmt.Sprint(s, " twice along ", axis), twice, e, a)
			}
			last, e := Reverse(a, len(s)-1)
			for _, axis := range []int{-1, -2, -9, math.MinInt} {
				b, f := Reverse(a, axis)
				if e != f || !array.Same(b, last) {
					t.Errorf("%v along %d: %q and %d", s, axis, tell(b), f)
				}
			}
		}
	}
}

func TestRotate(t *testing.T) {
	for _, c := range []struct {
		by, a array.Array
		axis  int
		want  string
	}{
		{array.Int(1), array.Ints(5, 6, 7), -1, "nums [3] 6 7 5"},
		{array.Int(1), array.Ints(5, 6, 7), 0, "nums [3] 6 7 5"},
		{array.Int(0), array.Ints(5, 6, 7), 0, "nums [3] 5 6 7"},
		{array.Int(3), array.Ints(5, 6, 7), 0, "nums [3] 5 6 7"},
		{array.Int(5), array.Ints(5, 6, 7), 0, "nums [3] 7 5 6"},
		{array.Int(-1), array.Ints(5, 6, 7), 0, "nums [3] 7 5 6"},
		{array.Int(-3), array.Ints(5, 6, 7), 0, "nums [3] 5 6 7"},
		{array.Int(-4), array.Text([]rune("abc")), 0, "chars [3] cab"},
		{array.Ints(2), array.Text([]rune("abcde")), -1, "chars [5] cdeab"},
		{array.Ints(1), letters(t, 2, 3), 1, "chars [2 3] BCAEFD"},
		{array.Int(1), letters(t, 2, 3), 0, "chars [2 3] DEFABC"},
		{array.Ints(1, -1), letters(t, 2, 3), -1, "chars [2 3] BCAFDE"},
		{array.Ints(0, 1, 2), letters(t, 2, 3), 0, "chars [2 3] AECDBF"},
		{array.Ints(0, 1, -1), letters(t, 3, 3), 0, "chars [3 3] AEIDHCGBF"},
		{ints(t, []int{2, 3}, 0, 1, 0, 1, 1, 0), letters(t, 2, 2, 3), 1, "chars [2 2 3] AECDBFJKIGHL"},
		{ints(t, []int{2, 2}, 0, 1, 2, 3), letters(t, 2, 2, 3), 2, "chars [2 2 3] ABCEFDIGHJKL"},
		{ints(t, []int{2, 3}, 0, 1, 2, -1, -2, -3), letters(t, 2, 2, 3), 0, "chars [2 2 3] AHCJELGBIDKF"},
		{array.Ints(7), letters(t, 1, 3), 1, "chars [1 3] BCA"},
		{array.Ints(1, 2), letters(t, 2, 1), 1, "chars [2 1] AB"},
		{ints(t, []int{1, 1}, 1), letters(t, 1, 2, 1), 1, "chars [1 2 1] BA"},
		{array.Int(5), array.Array{}, 0, "nums [0] "},
		{array.Int(math.MinInt), array.None(true), -1, "chars [0] "},
		{array.Ints(1, 2, 3), letters(t, 3, 0), -1, "chars [3 0] "},
		{array.Ints(), letters(t, 3, 0), 0, "chars [3 0] "},
		{array.None(true), letters(t, 3, 0), 0, "chars [3 0] "},
		{array.Ints(), numbers(t, 0, 3), 1, "nums [0 3] "},
		{array.Ints(1, 2, 3), numbers(t, 0, 3), 0, "nums [0 3] "},
		{array.Int(1), array.Int(5), -1, "nums [] 5"},
		{array.Ints(1), array.Char('x'), -2, "chars [] x"},
		{ints(t, []int{1, 1}, -3), array.Num(half(1)), math.MinInt, "nums [] 3/2"},
		{ints(t, []int{1, 1, 1, 1, 1, 1, 1, 1}, 3), array.Int(5), -1, "nums [] 5"},
	} {
		a, e := Rotate(c.by, c.a, c.axis)
		is(t, fmt.Sprint(tell(c.by), " rotates ", tell(c.a), " along ", c.axis), a, e, c.want)
	}
}

func TestRotateWrong(t *testing.T) {
	huge, _ := ratio.From(2).Pow(63, api.MaxLimbs)
	text, none := array.Text([]rune("ab")), array.None(true)
	for _, c := range []struct {
		by, a array.Array
		axis  int
		want  api.Errno
	}{
		{array.Num(half(0)), array.Ints(1, 2), 0, api.ErrDomain},
		{array.Num(huge), array.Ints(1, 2), 0, api.ErrDomain},
		{array.Char('1'), array.Ints(1, 2), -1, api.ErrDomain},
		{text, letters(t, 2, 3), 1, api.ErrDomain},
		{numbers(t, 2), letters(t, 2, 3), 1, api.ErrDomain},
		{text, array.Ints(1, 2), 5, api.ErrDomain},
		{numbers(t, 1, 1), array.Ints(1, 2), 5, api.ErrDomain},
		{numbers(t, 2, 2, 2), letters(t, 2, 3), 1, api.ErrDomain},
		{text, array.Int(5), -1, api.ErrDomain},
		{text, array.Int(5), 0, api.ErrDomain},
		{array.Char('1'), array.Char('x'), -1, api.ErrDomain},
		{array.Num(half(3)), array.Int(5), -1, api.ErrDomain},
		{numbers(t, 2), array.Int(5), -1, api.ErrDomain},
		{array.Num(half(3)), array.Array{}, 0, api.ErrDomain},
		{array.Ints(1, 2), array.Int(5), -1, api.ErrRank},
		{array.Array{}, array.Int(5), -1, api.ErrRank},
		{none, array.Char('x'), -1, api.ErrRank},
		{numbers(t, 0, 1), array.Int(5), -1, api.ErrRank},
		{array.Int(1), array.Int(5), 0, api.ErrRank},
		{array.Int(1), array.Char('x'), 1, api.ErrRank},
		{array.Ints(1, 2), array.Int(5), 0, api.ErrRank},
		{array.Int(1), array.Ints(1, 2), 1, api.ErrRank},
		{array.Int(1), array.Array{}, 1, api.ErrRank},
		{array.Int(1), letters(t, 2, 3), 2, api.ErrRank},
		{array.Ints(1, 2, 3), letters(t, 2, 3), math.MaxInt, api.ErrRank},
		{array.Ints(1, 2), array.Ints(5, 6), 0, api.ErrRank},
		{array.Ints(1, 2), array.Ints(5, 6), -1, api.ErrRank},
		{array.Ints(), array.Ints(5, 6), 0, api.ErrRank},
		{none, array.Array{}, 0, api.ErrRank},
		{ints(t, []int{1, 1}, 1), array.Ints(5, 6), 0, api.ErrRank},
		{ints(t, []int{1, 1}, 1), letters(t, 2, 3), 1, api.ErrRank},
		{ints(t, []int{2, 1}, 1, 2), letters(t, 2, 3), 1, api.ErrRank},
		{ints(t, []int{1, 2}, 1, 2), letters(t, 2, 3), 1, api.ErrRank},
		{array.Ints(1, 2), letters(t, 2, 2, 3), 1, api.ErrRank},
		{array.Ints(1, 2, 3, 4), letters(t, 2, 2, 3), 2, api.ErrRank},
		{ints(t, []int{1, 1, 1}, 1), letters(t, 2, 2, 3), 2, api.ErrRank},
		{array.Ints(1, 2, 3), letters(t, 2, 3), 1, api.ErrLength},
		{array.Ints(1, 2), letters(t, 2, 3), 0, api.ErrLength},
		{array.Ints(1, 2), letters(t, 3, 3), -1, api.ErrLength},
		{array.Ints(), letters(t, 2, 3), 1, api.ErrLength},
		{none, letters(t, 2, 3), 0, api.ErrLength},
		{array.Ints(), numbers(t, 0, 3), 0, api.ErrLength},
		{array.Ints(1, 2), numbers(t, 0, 3), 1, api.ErrLength},
		{array.Ints(1, 2), letters(t, 3, 0), 1, api.ErrLength},
		{ints(t, []int{2, 3}, 1, 2, 3, 4, 5, 6), letters(t, 3, 4, 2), 1, api.ErrLength},
		{ints(t, []int{1, 1}, 1), letters(t, 2, 2, 3), 2, api.ErrLength},
		{ints(t, []int{3, 2}, 1, 2, 3, 4, 5, 6), letters(t, 2, 3, 4), 2, api.ErrLength},
		{ints(t, []int{0, 3}), letters(t, 0, 2, 2), 1, api.ErrLength},
	} {
		a, e := Rotate(c.by, c.a, c.axis)
		fails(t, fmt.Sprint(tell(c.by), " rotates ", tell(c.a), " along ", c.axis), a, e, c.want)
	}
}

// turns are numbers to rotate by, also at the ends of the 64 bits.
var turns = []int{0, 1, 2, 3, 4, 5, 7, 4095, 4096, 4097, -1, -2, -3, -4, -5, -7, -4096, math.MaxInt, math.MaxInt - 1, math.MinInt, math.MinInt + 1}

// around64 is i plus turn modulo n, by numbers of any size.
func around64(i, turn, n int) int {
	sum := new(big.Int).Add(big.NewInt(int64(i)), big.NewInt(int64(turn)))
	return int(sum.Mod(sum, big.NewInt(int64(n))).Int64())
}

// TestRotateByOne: one number for all rows, along each axis.
func TestRotateByOne(t *testing.T) {
	for _, s := range known {
		if size(s) > 1000 {
			continue
		}
		for _, a := range both(t, s) {
			for axis := range s {
				for _, turn := range turns {
					want := built(t, a, s, func(idx []int) []int {
						idx[axis] = around64(idx[axis], turn, s[axis])
						return idx
					})
					for _, by := range []array.Array{array.Int(turn), array.Ints(turn)} {
						b, e := Rotate(by, a, axis)
						same(t, fmt.Sprint(tell(by), " rotates ", s, " along ", axis), b, e, want)
						if axis == len(s)-1 {
							b, e = Rotate(by, a, -1)
							same(t, fmt.Sprint(tell(by), " rotates ", s), b, e, want)
						}
					}
				}
			}
		}
	}
}

// TestRotateByMany: a number of its own for each row, along each axis; and then by
// its negation, which is the array again (P8.5).
func TestRotateByMany(t *testing.T) {
	for _, s := range known {
		for _, a := range both(t, s) {
			for axis := range s {
				rows := slices.Delete(slices.Clone(s), axis, axis+1)
				l, back := make([]int, size(rows)), make([]int, size(rows))
				for i := range l {
					// The least number has no negation among the integers of 64 bits.
					l[i] = max(turns[(i*5+axis)%len(turns)], -math.MaxInt)
					back[i] = -l[i]
				}
				b, e := Rotate(ints(t, rows, l...), a, axis)
				same(t, fmt.Sprint(s, " along ", axis), b, e, built(t, a, s, func(idx []int) []int {
					row := slices.Delete(slices.Clone(idx), axis, axis+1)
					idx[axis] = around64(idx[axis], l[place(rows, row)], s[axis])
					return idx
				}))
				again, e := Rotate(ints(t, rows, back...), b, axis)
				same(t, fmt.Sprint(s, " back along ", axis), again, e, a)
			}
		}
	}
}

// TestRotateRowsAtTheEnds: rows by the least and the greatest number.
func TestRotateRowsAtTheEnds(t *testing.T) {
	a := letters(t, 2, 3)
	b, e := Rotate(array.Ints(math.MinInt, math.MaxInt), a, 1)
	// The least is 1 modulo 3 (-2^63 = -8^21, 8 is -1), the greatest is 1 too.
	is(t, "ends", b, e, "chars [2 3] BCAEFD")
	b, e = Rotate(array.Ints(math.MaxInt, math.MinInt, math.MaxInt), a, 0)
	is(t, "ends", b, e, "chars [2 3] DBFAEC")
}
