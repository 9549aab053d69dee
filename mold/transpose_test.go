package mold

import (
	"fmt"
	"math"
	"slices"
	"testing"

	"typeball/api"
	"typeball/array"
	"typeball/ratio"
)

func TestTranspose(t *testing.T) {
	for _, c := range []struct {
		a    array.Array
		want string
	}{
		{array.Int(5), "nums [] 5"},
		{array.Char('x'), "chars [] x"},
		{array.Array{}, "nums [0] "},
		{array.None(true), "chars [0] "},
		{array.Ints(5, 6, 7), "nums [3] 5 6 7"},
		{letters(t, 2, 3), "chars [3 2] ADBECF"},
		{numbers(t, 3, 2), "nums [2 3] 1/2 5/2 9/2 3/2 7/2 11/2"},
		{letters(t, 1, 4), "chars [4 1] ABCD"},
		{letters(t, 0, 3), "chars [3 0] "},
		{numbers(t, 3, 0), "nums [0 3] "},
		{letters(t, 2, 3, 2), "chars [2 3 2] AGCIEKBHDJFL"},
		{letters(t, 1, 2, 3), "chars [3 2 1] ADBECF"},
		{letters(t, 2, 1, 1, 1, 1, 1, 1, 3), "chars [3 1 1 1 1 1 1 2] ADBECF"},
	} {
		is(t, "transpose of "+tell(c.a), Transpose(c.a), api.OK, c.want)
	}
}

// TestTransposeOfAll: and twice, which is the array again (P8.5).
func TestTransposeOfAll(t *testing.T) {
	for _, s := range known {
		for _, a := range both(t, s) {
			back := slices.Clone(s)
			slices.Reverse(back)
			b := Transpose(a)
			same(t, fmt.Sprint(s), b, api.OK, built(t, a, back, func(idx []int) []int {
				slices.Reverse(idx)
				return idx
			}))
			same(t, fmt.Sprint(s, " twice"), Transpose(b), api.OK, a)
		}
	}
}

func TestTransposeBy(t *testing.T) {
	for _, c := range []struct {
		by, a  array.Array
		origin int
		want   string
	}{
		{array.Ints(0, 1), letters(t, 2, 3), 0, "chars [2 3] ABCDEF"},
		{array.Ints(1, 0), letters(t, 2, 3), 0, "chars [3 2] ADBECF"},
		{array.Ints(1, 2), letters(t, 2, 3), 1, "chars [2 3] ABCDEF"},
		{array.Ints(2, 1), letters(t, 2, 3), 1, "chars [3 2] ADBECF"},
		{array.Ints(0, 0), letters(t, 2, 2), 0, "chars [2] AD"},
		{array.Ints(0, 0), letters(t, 2, 3), 0, "chars [2] AE"},
		{array.Ints(0, 0), letters(t, 3, 2), 0, "chars [2] AD"},
		{array.Ints(1, 1), numbers(t, 3, 3), 1, "nums [3] 1/2 9/2 17/2"},
		{array.Ints(0, 0), letters(t, 3, 0), 0, "chars [0] "},
		{array.Ints(0, 0), numbers(t, 0, 3), 0, "nums [0] "},
		{array.Ints(1, 0), letters(t, 0, 3), 0, "chars [3 0] "},
		{array.Ints(), array.Int(5), 0, "nums [] 5"},
		{array.Ints(), array.Char('x'), 1, "chars [] x"},
		{array.None(true), array.Int(5), 1, "nums [] 5"},
		{array.Ints(0), array.Ints(5, 6), 0, "nums [2] 5 6"},
		{array.Ints(1), array.Ints(5, 6), 1, "nums [2] 5 6"},
		{array.Int(0), array.Ints(5, 6), 0, "nums [2] 5 6"},
		{array.Int(1), array.Text([]rune("ab")), 1, "chars [2] ab"},
		{array.Int(0), array.Array{}, 0, "nums [0] "},
		{array.Ints(1, 2, 0), letters(t, 1, 2, 3), 0, "chars [3 1 2] ADBECF"},
		{array.Ints(2, 0, 1), letters(t, 2, 3, 1), 0, "chars [3 1 2] ADBECF"},
		{array.Ints(1, 2, 0), letters(t, 2, 3, 2), 0, "chars [2 2 3] ACEGIKBDFHJL"},
		{array.Ints(2, 0, 1), letters(t, 2, 3, 2), 0, "chars [3 2 2] AGBHCIDJEKFL"},
		{array.Ints(0, 0, 1), letters(t, 2, 2, 3), 0, "chars [2 3] ABCJKL"},
		{array.Ints(0, 1, 0), letters(t, 2, 2, 3), 0, "chars [2 2] ADHK"},
		{array.Ints(1, 0, 0), letters(t, 2, 2, 3), 0, "chars [2 2] AGEK"},
		{array.Ints(1, 1, 0), letters(t, 2, 2, 3), 0, "chars [3 2] AJBKCL"},
		{array.Ints(0, 0, 0), letters(t, 2, 2, 3), 0, "chars [2] AK"},
		{array.Ints(-5, -4), letters(t, 2, 3), -5, "chars [2 3] ABCDEF"},
		{array.Ints(0, -1), letters(t, 2, 3), -1, "chars [3 2] ADBECF"},
		{array.Ints(math.MinInt+1, math.MinInt), letters(t, 2, 3), math.MinInt, "chars [3 2] ADBECF"},
		{array.Ints(math.MinInt, math.MinInt), letters(t, 2, 3), math.MinInt, "chars [2] AE"},
		{array.Ints(math.MaxInt, math.MaxInt-1), letters(t, 2, 3), math.MaxInt - 1, "chars [3 2] ADBECF"},
		{array.Ints(math.MaxInt, math.MaxInt), letters(t, 2, 3), math.MaxInt, "chars [2] AE"},
		{array.Ints(math.MaxInt), array.Ints(5, 6), math.MaxInt, "nums [2] 5 6"},
		{array.Ints(), array.Int(5), math.MaxInt, "nums [] 5"},
		{array.Ints(), array.Int(5), math.MinInt, "nums [] 5"},
		{array.Ints(7, 6, 5, 4, 3, 2, 1, 0), letters(t, 2, 1, 1, 1, 1, 1, 1, 3), 0, "chars [3 1 1 1 1 1 1 2] ADBECF"},
		{array.Ints(0, 0, 0, 0, 0, 0, 0, 0), letters(t, 2, 2, 2, 2, 2, 2, 2, 2), 0, "chars [2] A" + string(rune('A'+255))},
		{array.Ints(1, 1, 1, 1, 2, 2, 2, 2), letters(t, 2, 2, 2, 2, 2, 2, 2, 2), 1, "chars [2 2] A" + string([]rune{'A' + 15, 'A' + 240, 'A' + 255})},
	} {
		a, e := TransposeBy(c.by, c.a, c.origin)
		is(t, fmt.Sprint(tell(c.by), " transposes ", tell(c.a), " from ", c.origin), a, e, c.want)
	}
}

func TestTransposeByWrong(t *testing.T) {
	huge, _ := ratio.From(2).Pow(64, api.MaxLimbs)
	for _, c := range []struct {
		by, a  array.Array
		origin int
		want   api.Errno
	}{
		{ints(t, []int{1, 2}, 0, 1), letters(t, 2, 3), 0, api.ErrRank},
		{ints(t, []int{1, 1}, 0), array.Ints(5, 6), 0, api.ErrRank},
		{ints(t, []int{0, 0}), array.Int(5), 0, api.ErrRank},
		{numbers(t, 2, 1), letters(t, 2, 3), 0, api.ErrRank},
		{chars(t, []int{1, 2}, "ab"), letters(t, 2, 3), 0, api.ErrRank},
		{ints(t, []int{1, 3}, 7, 8, 9), letters(t, 2, 3), 0, api.ErrRank},
		{numbers(t, 2), letters(t, 2, 3), 0, api.ErrDomain},
		{numbers(t, 3), letters(t, 2, 3), 0, api.ErrDomain},
		{array.Num(half(0)), array.Ints(5, 6), 0, api.ErrDomain},
		{array.Num(half(0)), array.Int(5), 0, api.ErrDomain},
		{array.Num(huge), array.Ints(5, 6), 0, api.ErrDomain},
		{array.Text([]rune("ab")), letters(t, 2, 3), 0, api.ErrDomain},
		{array.Text([]rune("abc")), letters(t, 2, 3), 0, api.ErrDomain},
		{array.Char('a'), array.Int(5), 0, api.ErrDomain},
		{array.Ints(0), letters(t, 2, 3), 0, api.ErrLength},
		{array.Int(0), letters(t, 2, 3), 0, api.ErrLength},
		{array.Ints(), letters(t, 2, 3), 0, api.ErrLength},
		{array.None(true), letters(t, 2, 3), 0, api.ErrLength},
		{array.Ints(0, 1, 2), letters(t, 2, 3), 0, api.ErrLength},
		{array.Ints(0, 1), array.Ints(5, 6), 0, api.ErrLength},
		{array.Ints(), array.Ints(5, 6), 0, api.ErrLength},
		{array.Int(0), array.Int(5), 0, api.ErrLength},
		{array.Ints(0), array.Char('x'), 0, api.ErrLength},
		{array.Ints(-1), letters(t, 2, 3), 0, api.ErrLength},
		{array.Ints(9, 9, 9), letters(t, 2, 3), 0, api.ErrLength},
		{array.Ints(make([]int, 4096)...), letters(t, 2, 3), 0, api.ErrLength},
		{array.Ints(0, -1), letters(t, 2, 3), 0, api.ErrDomain},
		{array.Ints(-1, 0), letters(t, 2, 3), 0, api.ErrDomain},
		{array.Ints(0, 2), letters(t, 2, 3), 0, api.ErrDomain},
		{array.Ints(2, 1), letters(t, 2, 3), 0, api.ErrDomain},
		{array.Ints(1, 1), letters(t, 2, 3), 0, api.ErrDomain},
		{array.Ints(1), array.Ints(5, 6), 0, api.ErrDomain},
		{array.Int(-1), array.Ints(5, 6), 0, api.ErrDomain},
		{array.Ints(0), array.Ints(5, 6), 1, api.ErrDomain},
		{array.Ints(2), array.Ints(5, 6), 1, api.ErrDomain},
		{array.Ints(0, 1), letters(t, 2, 3), 1, api.ErrDomain},
		{array.Ints(1, 3), letters(t, 2, 3), 1, api.ErrDomain},
		{array.Ints(2, 2), letters(t, 2, 3), 1, api.ErrDomain},
		{array.Ints(0, 2, 2), letters(t, 2, 2, 3), 0, api.ErrDomain},
		{array.Ints(1, 2, 1), letters(t, 2, 2, 3), 0, api.ErrDomain},
		{array.Ints(0, 2, 0), letters(t, 2, 0, 3), 0, api.ErrDomain},
		{array.Ints(0, 0, 0, 0, 0, 0, 0, 7), letters(t, 1, 1, 1, 1, 1, 1, 1, 1), 0, api.ErrDomain},
		{array.Ints(0, 1, 2, 3, 4, 5, 6, 8), letters(t, 1, 1, 1, 1, 1, 1, 1, 1), 0, api.ErrDomain},
		{array.Ints(math.MinInt), array.Ints(5, 6), math.MaxInt, api.ErrDomain},
		{array.Ints(math.MinInt, math.MinInt), letters(t, 2, 3), math.MaxInt, api.ErrDomain},
		{array.Ints(math.MaxInt, math.MinInt), letters(t, 2, 3), math.MaxInt, api.ErrDomain},
		{array.Ints(math.MaxInt-1, math.MaxInt), letters(t, 2, 3), math.MaxInt, api.ErrDomain},
		{array.Ints(math.MaxInt, math.MaxInt), letters(t, 2, 3), math.MaxInt - 1, api.ErrDomain},
		{array.Ints(math.MaxInt), array.Ints(5, 6), math.MinInt, api.ErrDomain},
		{array.Ints(0), array.Ints(5, 6), math.MinInt, api.ErrDomain},
		{array.Ints(math.MinInt, math.MaxInt), letters(t, 2, 3), math.MinInt, api.ErrDomain},
		{array.Ints(math.MinInt, math.MinInt+2), letters(t, 2, 3), math.MinInt, api.ErrDomain},
		{array.Ints(math.MaxInt, 0), letters(t, 2, 3), -1, api.ErrDomain},
		{array.Ints(math.MinInt, 0), letters(t, 2, 3), 1, api.ErrDomain},
		{array.Ints(math.MaxInt, math.MaxInt), letters(t, 2, 3), 0, api.ErrDomain},
	} {
		a, e := TransposeBy(c.by, c.a, c.origin)
		fails(t, fmt.Sprint(tell(c.by), " transposes ", tell(c.a), " from ", c.origin), a, e, c.want)
	}
}

// wanted is what TransposeBy answers of axes that are counted from 0, and true; false
// if they are none.
func wanted(t *testing.T, to []int, a array.Array) (array.Array, bool) {
	s := a.Shape()
	most := -1
	for _, axis := range to {
		if axis < 0 || axis >= len(s) {
			return array.Array{}, false
		}
		most = max(most, axis)
	}
	r := make([]int, most+1)
	for axis := range r {
		r[axis] = -1
		for i, n := range s {
			if to[i] == axis && (r[axis] < 0 || n < r[axis]) {
				r[axis] = n
			}
		}
		if r[axis] < 0 {
			return array.Array{}, false
		}
	}
	return built(t, a, r, func(idx []int) []int {
		from := make([]int, len(s))
		for i := range from {
			from[i] = idx[to[i]]
		}
		return from
	}), true
}

// lists are all lists of so many numbers from low to below high.
func lists(many, low, high int) [][]int {
	all := [][]int{nil}
	for range many {
		var longer [][]int
		for _, l := range all {
			for n := low; n < high; n++ {
				longer = append(longer, append(slices.Clone(l), n))
			}
		}
		all = longer
	}
	return all
}

// TestTransposeByAll: all lists of axes, of which some are wrong, for arrays of up to
// four axes, with several origins.
func TestTransposeByAll(t *testing.T) {
	origins := []int{0, 1, -3, math.MaxInt - 4, math.MinInt + 1}
	for _, s := range [][]int{nil, {0}, {3}, {2, 3}, {3, 2}, {0, 2}, {2, 3, 4}, {3, 1, 2}, {2, 0, 3}, {2, 3, 1, 2}, {3, 2, 2, 2}} {
		for i, a := range both(t, s) {
			for j, to := range lists(len(s), -1, len(s)+1) {
				origin := origins[(i+j)%len(origins)]
				by := make([]int, len(to))
				for k, axis := range to {
					by[k] = origin + axis
				}
				b, e := TransposeBy(array.Ints(by...), a, origin)
				want, ok := wanted(t, to, a)
				if !ok {
					fails(t, fmt.Sprint(by, " transposes ", s, " from ", origin), b, e, api.ErrDomain)
					continue
				}
				same(t, fmt.Sprint(by, " transposes ", s, " from ", origin), b, e, want)
			}
		}
	}
}

// orders are the orders of so many numbers from 0 on.
func orders(many int) [][]int {
	if many == 0 {
		return [][]int{nil}
	}
	var all [][]int
	for _, l := range orders(many - 1) {
		for i := range many {
			all = append(all, slices.Insert(slices.Clone(l), i, many-1))
		}
	}
	return all
}

// TestTransposeByOrders: each order of up to five axes, and back again; the order
// from the last axis on is Transpose.
func TestTransposeByOrders(t *testing.T) {
	for _, s := range [][]int{nil, {4}, {2, 3}, {2, 3, 4}, {2, 3, 1, 4}, {3, 1, 2, 2, 3}} {
		a := letters(t, s...)
		for _, to := range orders(len(s)) {
			back := make([]int, len(to))
			for i, axis := range to {
				back[axis] = i
			}
			b, e := TransposeBy(array.Ints(to...), a, 0)
			want, _ := wanted(t, to, a)
			same(t, fmt.Sprint(to, " transposes ", s), b, e, want)
			again, e := TransposeBy(array.Ints(back...), b, 0)
			same(t, fmt.Sprint(to, " transposes back ", s), again, e, a)
			if slices.IsSortedFunc(to, func(i, j int) int { return j - i }) {
				same(t, fmt.Sprint("transpose of ", s), Transpose(a), api.OK, b)
			}
		}
	}
}

// TestTransposeByOfEight: eight axes, apart and together.
func TestTransposeByOfEight(t *testing.T) {
	a := letters(t, 2, 1, 3, 1, 2, 2, 3, 2)
	for _, to := range [][]int{
		{0, 1, 2, 3, 4, 5, 6, 7},
		{7, 6, 5, 4, 3, 2, 1, 0},
		{1, 2, 3, 4, 5, 6, 7, 0},
		{3, 0, 7, 1, 6, 2, 5, 4},
		{0, 1, 2, 3, 3, 2, 1, 0},
		{2, 0, 2, 1, 2, 1, 0, 1},
		{0, 0, 1, 1, 2, 2, 3, 3},
		{1, 0, 0, 0, 0, 0, 0, 1},
	} {
		b, e := TransposeBy(array.Ints(to...), a, 0)
		want, ok := wanted(t, to, a)
		if !ok {
			t.Fatal(to)
		}
		same(t, fmt.Sprint(to), b, e, want)
	}
}
