package shape

import (
	"math"
	"math/big"
	"slices"
	"testing"

	"typeball/array"
)

// known are shapes, with and without elements, of all numbers of axes.
var known = [][]int{
	nil,
	{},
	{0},
	{1},
	{7},
	{4096},
	{2, 3},
	{3, 2},
	{1, 1},
	{0, 3},
	{3, 0},
	{0, 0},
	{0, 4096},
	{4096, 0},
	{64, 64},
	{4096, 1},
	{1, 4096},
	{2, 3, 4},
	{4, 1, 3},
	{2, 0, 4},
	{0, 2, 4},
	{2, 4, 0},
	{2, 3, 4, 5},
	{3, 1, 2, 1, 3},
	{2, 2, 2, 2, 2, 2, 2, 2},
	{2, 1, 3, 1, 2, 1, 3, 1},
	{1, 1, 1, 1, 1, 1, 1, 1},
	{8, 8, 8, 8, 1, 1, 1, 1},
	{1, 2, 3, 0, 4, 3, 2, 1},
	{0, 0, 0, 0, 0, 0, 0, 0},
}

// wrong are lists of numbers that are no shapes.
var wrong = [][]int{
	{-1},
	{2, -3},
	{-2, 3},
	{-2, -3},
	{0, -1},
	{-1, 0},
	{4097},
	{64, 65},
	{2, 2049},
	{4097, 0},
	{0, 4097},
	{64, 0, 65},
	{1, 1, 1, 1, 1, 1, 1, 1, 1},
	{0, 0, 0, 0, 0, 0, 0, 0, 0},
	{2, 2, 2, 2, 2, 2, 2, 2, 2},
	{1 << 32, 1 << 32},
	{1 << 32, 1 << 32, 1},
	{1 << 62, 4, 3},
	{math.MaxInt},
	{math.MaxInt, math.MaxInt},
	{math.MaxInt, 0},
	{math.MinInt},
	{math.MinInt, 0},
	{math.MinInt, math.MinInt},
}

// edges are integers that no list of numbers has as many axes or elements as.
var edges = []int{math.MinInt, math.MinInt32, -2, -1, 4097, math.MaxInt32, math.MaxInt}

// multiplied is the product of some numbers, by numbers of any size.
func multiplied(l []int) int {
	p := big.NewInt(1)
	for _, n := range l {
		p.Mul(p, big.NewInt(int64(n)))
	}
	return int(p.Int64())
}

// indices are all indices of a shape, in order: for each of the first axis's, all of
// the others'.
func indices(s []int) [][]int {
	if len(s) == 0 {
		return [][]int{nil}
	}
	var l [][]int
	for i := range s[0] {
		for _, more := range indices(s[1:]) {
			l = append(l, append([]int{i}, more...))
		}
	}
	return l
}

// rest are all the numbers of a slice's memory, those behind its end too.
func rest(l []int) []int { return slices.Clone(l[:cap(l)]) }

// roomy is a copy of a list with other numbers behind its end.
func roomy(l []int) []int {
	return append(slices.Clone(l), 71, 72, 73)[:len(l)]
}

func TestStrides(t *testing.T) {
	for _, c := range []struct{ s, want []int }{
		{nil, nil},
		{[]int{}, nil},
		{[]int{5}, []int{1}},
		{[]int{0}, []int{1}},
		{[]int{4096}, []int{1}},
		{[]int{2, 3}, []int{3, 1}},
		{[]int{2, 3, 4}, []int{12, 4, 1}},
		{[]int{0, 3}, []int{3, 1}},
		{[]int{3, 0}, []int{0, 1}},
		{[]int{2, 0, 4}, []int{0, 4, 1}},
		{[]int{2, 3, 0}, []int{0, 0, 1}},
		{[]int{0, 4096}, []int{4096, 1}},
		{[]int{2, 1, 3, 1, 2, 1, 3, 1}, []int{18, 18, 6, 6, 3, 3, 1, 1}},
		{[]int{2, 2, 2, 2, 2, 2, 2, 2}, []int{128, 64, 32, 16, 8, 4, 2, 1}},
		{[]int{5, 4, 0, 3, 1, 2, 1, 4}, []int{0, 0, 24, 8, 8, 4, 4, 1}},
	} {
		if got := Strides(c.s); !slices.Equal(got, c.want) {
			t.Errorf("%v: %v, not %v", c.s, got, c.want)
		}
	}
}

func TestStridesOfAll(t *testing.T) {
	for _, s := range known {
		got := Strides(s)
		if len(got) != len(s) {
			t.Errorf("%v: %v", s, got)
			continue
		}
		for axis := range s {
			if got[axis] != multiplied(s[axis+1:]) {
				t.Errorf("%v: %v at axis %d", s, got, axis)
			}
		}
	}
	for _, s := range wrong {
		if got := Strides(s); len(got) > 0 {
			t.Errorf("%v: %v", s, got)
		}
	}
}

func TestPlace(t *testing.T) {
	for _, c := range []struct {
		s, idx []int
		at     int
	}{
		{nil, nil, 0},
		{nil, []int{}, 0},
		{[]int{}, nil, 0},
		{nil, []int{0}, -1},
		{nil, []int{-1}, -1},
		{[]int{5}, []int{0}, 0},
		{[]int{5}, []int{4}, 4},
		{[]int{5}, []int{5}, -1},
		{[]int{5}, []int{6}, -1},
		{[]int{5}, []int{-1}, -1},
		{[]int{5}, nil, -1},
		{[]int{5}, []int{0, 0}, -1},
		{[]int{5}, []int{math.MinInt}, -1},
		{[]int{5}, []int{math.MaxInt}, -1},
		{[]int{4096}, []int{4095}, 4095},
		{[]int{4096}, []int{4096}, -1},
		{[]int{2, 3}, []int{0, 0}, 0},
		{[]int{2, 3}, []int{0, 2}, 2},
		{[]int{2, 3}, []int{1, 0}, 3},
		{[]int{2, 3}, []int{1, 2}, 5},
		{[]int{2, 3}, []int{1}, -1},
		{[]int{2, 3}, []int{}, -1},
		{[]int{2, 3}, []int{1, 2, 0}, -1},
		{[]int{2, 3}, []int{0, 3}, -1},
		{[]int{2, 3}, []int{1, 3}, -1},
		{[]int{2, 3}, []int{2, 0}, -1},
		{[]int{2, 3}, []int{2, 2}, -1},
		{[]int{2, 3}, []int{-1, 0}, -1},
		{[]int{2, 3}, []int{0, -1}, -1},
		{[]int{2, 3}, []int{1, -1}, -1},
		{[]int{2, 3}, []int{-1, 3}, -1},
		{[]int{0}, []int{0}, -1},
		{[]int{0}, []int{-1}, -1},
		{[]int{0}, nil, -1},
		{[]int{0, 3}, []int{0, 0}, -1},
		{[]int{3, 0}, []int{0, 0}, -1},
		{[]int{3, 0}, []int{2, -1}, -1},
		{[]int{3, 0}, []int{2}, -1},
		{[]int{2, 2, 2, 2, 2, 2, 2, 2}, []int{1, 0, 1, 0, 0, 1, 1, 0}, 166},
		{[]int{2, 2, 2, 2, 2, 2, 2, 2}, []int{1, 1, 1, 1, 1, 1, 1, 1}, 255},
		{[]int{2, 2, 2, 2, 2, 2, 2, 2}, []int{1, 1, 1, 1, 1, 1, 1, 2}, -1},
		{[]int{2, 2, 2, 2, 2, 2, 2, 2}, []int{0, 0, 0, 0, 0, 0, 0, 0, 0}, -1},
		{[]int{1, 1, 1, 1, 1, 1, 1, 1, 1}, []int{0, 0, 0, 0, 0, 0, 0, 0, 0}, -1},
		{[]int{4097}, []int{0}, -1},
		{[]int{64, 65}, []int{0, 0}, -1},
		{[]int{2, -1}, []int{0, 0}, -1},
		{[]int{-1, 2}, []int{-2, 0}, -1},
		{[]int{1 << 32, 1 << 32}, []int{1, 1}, -1},
		{[]int{math.MaxInt}, []int{5}, -1},
	} {
		at, ok := Place(c.s, c.idx)
		if ok != (c.at >= 0) || at != max(c.at, 0) {
			t.Errorf("%v of %v: %d and %v, not %d", c.idx, c.s, at, ok, c.at)
		}
	}
}

func TestIndex(t *testing.T) {
	for _, c := range []struct {
		s    []int
		at   int
		want []int
		ok   bool
	}{
		{nil, 0, nil, true},
		{[]int{}, 0, nil, true},
		{nil, 1, nil, false},
		{nil, -1, nil, false},
		{[]int{5}, 0, []int{0}, true},
		{[]int{5}, 4, []int{4}, true},
		{[]int{5}, 5, nil, false},
		{[]int{5}, -1, nil, false},
		{[]int{2, 3}, 0, []int{0, 0}, true},
		{[]int{2, 3}, 2, []int{0, 2}, true},
		{[]int{2, 3}, 3, []int{1, 0}, true},
		{[]int{2, 3}, 5, []int{1, 2}, true},
		{[]int{2, 3}, 6, nil, false},
		{[]int{2, 3}, -1, nil, false},
		{[]int{2, 3}, -6, nil, false},
		{[]int{0}, 0, nil, false},
		{[]int{0}, -1, nil, false},
		{[]int{0}, 1, nil, false},
		{[]int{0, 3}, 0, nil, false},
		{[]int{3, 0}, 0, nil, false},
		{[]int{3, 0}, 1, nil, false},
		{[]int{2, 0, 4}, 0, nil, false},
		{[]int{4096}, 4095, []int{4095}, true},
		{[]int{4096}, 4096, nil, false},
		{[]int{2, 3, 4}, 23, []int{1, 2, 3}, true},
		{[]int{2, 3, 4}, 17, []int{1, 1, 1}, true},
		{[]int{2, 2, 2, 2, 2, 2, 2, 2}, 166, []int{1, 0, 1, 0, 0, 1, 1, 0}, true},
		{[]int{2, 2, 2, 2, 2, 2, 2, 2}, 256, nil, false},
	} {
		idx, ok := Index(c.s, c.at)
		if ok != c.ok || !slices.Equal(idx, c.want) {
			t.Errorf("%d of %v: %v and %v, not %v", c.at, c.s, idx, ok, c.want)
		}
	}
}

// TestInverse: Index and Place take each other back, and go through all elements in
// order (P7.4).
func TestInverse(t *testing.T) {
	for _, s := range known {
		all := indices(s)
		for at, want := range all {
			idx, ok := Index(s, at)
			if !ok || !slices.Equal(idx, want) {
				t.Fatalf("%v at %d: %v and %v, not %v", s, at, idx, ok, want)
			}
			if n, ok := Place(s, want); !ok || n != at {
				t.Fatalf("%v: %v lies at %d and %v, not %d", s, want, n, ok, at)
			}
		}
		for _, at := range append([]int{len(all), len(all) + 1}, edges...) {
			if idx, ok := Index(s, at); ok || len(idx) > 0 {
				t.Errorf("%v at %d: %v and %v", s, at, idx, ok)
			}
		}
	}
}

// TestNoIndex: an index with one number just outside its axis, or with a number more
// or less, is none.
func TestNoIndex(t *testing.T) {
	none := func(s, idx []int) {
		if at, ok := Place(s, idx); ok || at != 0 {
			t.Errorf("%v: %v lies at %d and %v", s, idx, at, ok)
		}
	}
	for _, s := range known {
		last := make([]int, len(s))
		for axis := range last {
			last[axis] = s[axis] - 1
		}
		for _, idx := range [][]int{make([]int, len(s)), last} {
			for axis := range s {
				for _, n := range append([]int{s[axis], s[axis] + 1}, edges...) {
					off := slices.Clone(idx)
					off[axis] = n
					none(s, off)
				}
			}
			none(s, append(slices.Clone(idx), 0))
			if len(idx) > 0 {
				none(s, idx[1:])
				none(s, idx[:len(idx)-1])
			}
		}
	}
}

func TestNoShape(t *testing.T) {
	for _, s := range wrong {
		for _, n := range append([]int{0, 1}, edges...) {
			idx := make([]int, len(s))
			for axis := range idx {
				idx[axis] = n
			}
			if at, ok := Place(s, idx); ok || at != 0 {
				t.Errorf("%v: %v lies at %d and %v", s, idx, at, ok)
			}
			if idx, ok := Index(s, n); ok || len(idx) > 0 {
				t.Errorf("%v at %d: %v and %v", s, n, idx, ok)
			}
			if a, b, c, ok := Split(s, n); ok || a != 0 || b != 0 || c != 0 {
				t.Errorf("%v at axis %d: %d, %d, %d and %v", s, n, a, b, c, ok)
			}
		}
		calls := 0
		if l := Places(s, func([]int) int { calls++; return 1 }); len(l) > 0 || calls > 0 {
			t.Errorf("%v: %v after %d calls", s, l, calls)
		}
	}
}

func TestSplit(t *testing.T) {
	for _, c := range []struct {
		s                []int
		axis             int
		before, n, after int
		ok               bool
	}{
		{nil, 0, 0, 0, 0, false},
		{[]int{}, 0, 0, 0, 0, false},
		{nil, -1, 0, 0, 0, false},
		{[]int{5}, 0, 1, 5, 1, true},
		{[]int{5}, 1, 0, 0, 0, false},
		{[]int{5}, -1, 0, 0, 0, false},
		{[]int{2, 3}, 0, 1, 2, 3, true},
		{[]int{2, 3}, 1, 2, 3, 1, true},
		{[]int{2, 3}, 2, 0, 0, 0, false},
		{[]int{2, 3, 4}, 0, 1, 2, 12, true},
		{[]int{2, 3, 4}, 1, 2, 3, 4, true},
		{[]int{2, 3, 4}, 2, 6, 4, 1, true},
		{[]int{2, 3, 4}, 3, 0, 0, 0, false},
		{[]int{2, 3, 4}, -1, 0, 0, 0, false},
		{[]int{0}, 0, 1, 0, 1, true},
		{[]int{0, 3, 5}, 0, 1, 0, 15, true},
		{[]int{0, 3, 5}, 1, 0, 3, 5, true},
		{[]int{3, 0, 5}, 0, 1, 3, 0, true},
		{[]int{3, 0, 5}, 1, 3, 0, 5, true},
		{[]int{3, 0, 5}, 2, 0, 5, 1, true},
		{[]int{0, 4096}, 0, 1, 0, 4096, true},
		{[]int{4096, 0}, 1, 4096, 0, 1, true},
		{[]int{2, 1, 3, 1, 2, 1, 3, 4}, 0, 1, 2, 72, true},
		{[]int{2, 1, 3, 1, 2, 1, 3, 4}, 4, 6, 2, 12, true},
		{[]int{2, 1, 3, 1, 2, 1, 3, 4}, 7, 36, 4, 1, true},
		{[]int{2, 1, 3, 1, 2, 1, 3, 4}, 8, 0, 0, 0, false},
		{[]int{4097}, 0, 0, 0, 0, false},
		{[]int{4097, 0}, 1, 0, 0, 0, false},
		{[]int{2, -1}, 0, 0, 0, 0, false},
		{[]int{1, 1, 1, 1, 1, 1, 1, 1, 1}, 0, 0, 0, 0, false},
		{[]int{1, 1, 1, 1, 1, 1, 1, 1, 1}, 8, 0, 0, 0, false},
	} {
		before, n, after, ok := Split(c.s, c.axis)
		if before != c.before || n != c.n || after != c.after || ok != c.ok {
			t.Errorf("%v at axis %d: %d, %d, %d and %v", c.s, c.axis, before, n, after, ok)
		}
	}
}

func TestSplitOfAll(t *testing.T) {
	for _, s := range known {
		for axis := range s {
			before, n, after, ok := Split(s, axis)
			if !ok || before != multiplied(s[:axis]) || n != s[axis] || after != multiplied(s[axis+1:]) {
				t.Errorf("%v at axis %d: %d, %d, %d and %v", s, axis, before, n, after, ok)
			}
		}
		for _, axis := range append([]int{len(s), len(s) + 1}, edges...) {
			if a, b, c, ok := Split(s, axis); ok || a != 0 || b != 0 || c != 0 {
				t.Errorf("%v at axis %d: %d, %d, %d and %v", s, axis, a, b, c, ok)
			}
		}
	}
}

func TestWithWithout(t *testing.T) {
	for _, c := range []struct {
		s             []int
		axis, n       int
		with, without []int
	}{
		{nil, 0, 9, nil, nil},
		{[]int{}, 0, 9, nil, nil},
		{nil, -1, 9, nil, nil},
		{[]int{5}, 0, 9, []int{9}, nil},
		{[]int{5}, 1, 9, []int{5}, []int{5}},
		{[]int{5}, -1, 9, []int{5}, []int{5}},
		{[]int{2, 3, 4}, 0, 9, []int{9, 3, 4}, []int{3, 4}},
		{[]int{2, 3, 4}, 1, 0, []int{2, 0, 4}, []int{2, 4}},
		{[]int{2, 3, 4}, 2, 4096, []int{2, 3, 4096}, []int{2, 3}},
		{[]int{2, 3, 4}, 3, 9, []int{2, 3, 4}, []int{2, 3, 4}},
		{[]int{2, 3, 4}, -1, 9, []int{2, 3, 4}, []int{2, 3, 4}},
		{[]int{2, 3, 4}, math.MinInt, 9, []int{2, 3, 4}, []int{2, 3, 4}},
		{[]int{2, 3, 4}, math.MaxInt, 9, []int{2, 3, 4}, []int{2, 3, 4}},
		{[]int{2, 3}, 1, 3, []int{2, 3}, []int{2}},
		{[]int{0, 7}, 0, 1, []int{1, 7}, []int{7}},
		{[]int{1, 2, 3, 4, 5, 6, 1, 1}, 7, 2, []int{1, 2, 3, 4, 5, 6, 1, 2}, []int{1, 2, 3, 4, 5, 6, 1}},
	} {
		if got := With(c.s, c.axis, c.n); !slices.Equal(got, c.with) {
			t.Errorf("%v with %d at axis %d: %v, not %v", c.s, c.n, c.axis, got, c.with)
		}
		if got := Without(c.s, c.axis); !slices.Equal(got, c.without) {
			t.Errorf("%v without axis %d: %v, not %v", c.s, c.axis, got, c.without)
		}
	}
}

func TestJoin(t *testing.T) {
	for _, c := range []struct {
		l    [][]int
		want []int
	}{
		{nil, nil},
		{[][]int{}, nil},
		{[][]int{nil}, nil},
		{[][]int{{}, nil, {}}, nil},
		{[][]int{{5}}, []int{5}},
		{[][]int{{2, 3}}, []int{2, 3}},
		{[][]int{{2, 3}, {4}}, []int{2, 3, 4}},
		{[][]int{{2, 3}, nil}, []int{2, 3}},
		{[][]int{{}, {2, 3}}, []int{2, 3}},
		{[][]int{{2}, {}, {3, 0}, nil, {1, 1}}, []int{2, 3, 0, 1, 1}},
		{[][]int{{2, 3}, {2, 3}, {2, 3}}, []int{2, 3, 2, 3, 2, 3}},
	} {
		if got := Join(c.l...); !slices.Equal(got, c.want) {
			t.Errorf("%v: %v, not %v", c.l, got, c.want)
		}
	}
}

func TestSame(t *testing.T) {
	for _, c := range []struct {
		a, b []int
		want bool
	}{
		{nil, nil, true},
		{nil, []int{}, true},
		{[]int{}, nil, true},
		{nil, []int{0}, false},
		{[]int{1}, nil, false},
		{[]int{5}, []int{5}, true},
		{[]int{5}, []int{6}, false},
		{[]int{2, 3}, []int{2, 3}, true},
		{[]int{2, 3}, []int{3, 2}, false},
		{[]int{2, 3}, []int{2, 4}, false},
		{[]int{2, 3}, []int{1, 3}, false},
		{[]int{2, 3}, []int{2}, false},
		{[]int{2}, []int{2, 3}, false},
		{[]int{2, 3}, []int{2, 3, 1}, false},
		{[]int{1, 2, 3}, []int{2, 3}, false},
		{[]int{0, 3}, []int{0, 4}, false},
		{[]int{1, 2, 3, 4, 5, 6, 7, 8}, []int{1, 2, 3, 4, 5, 6, 7, 8}, true},
		{[]int{1, 2, 3, 4, 5, 6, 7, 8}, []int{1, 2, 3, 4, 5, 6, 7, 9}, false},
	} {
		if Same(c.a, c.b) != c.want || Same(c.b, c.a) != c.want {
			t.Errorf("%v and %v: not %v", c.a, c.b, c.want)
		}
	}
}

// TestPlaces: from is called once for each element, in order, with its index, and its
// results are answered as they are.
func TestPlaces(t *testing.T) {
	for _, s := range known {
		var seen [][]int
		l := Places(s, func(idx []int) int {
			seen = append(seen, slices.Clone(idx))
			return 1000 - 3*len(seen)
		})
		all := indices(s)
		if len(l) != len(all) || !slices.EqualFunc(seen, all, slices.Equal[[]int]) {
			t.Fatalf("%v: %d results, indices %v", s, len(l), seen)
		}
		for at, n := range l {
			if n != 1000-3*(at+1) {
				t.Fatalf("%v: %d at %d", s, n, at)
			}
		}
	}
}

func TestPlacesOfFew(t *testing.T) {
	digits := func(idx []int) int {
		n := 0
		for _, i := range idx {
			n = 10*n + i
		}
		return n
	}
	for _, c := range []struct{ s, want []int }{
		{nil, []int{0}},
		{[]int{}, []int{0}},
		{[]int{0}, nil},
		{[]int{4}, []int{0, 1, 2, 3}},
		{[]int{2, 3}, []int{0, 1, 2, 10, 11, 12}},
		{[]int{3, 2}, []int{0, 1, 10, 11, 20, 21}},
		{[]int{3, 0}, nil},
		{[]int{0, 3}, nil},
		{[]int{2, 1, 2}, []int{0, 1, 100, 101}},
		{[]int{2, 0, 2}, nil},
		{[]int{1, 1, 1, 1, 1, 1, 1, 2}, []int{0, 1}},
	} {
		if got := Places(c.s, digits); !slices.Equal(got, c.want) {
			t.Errorf("%v: %v, not %v", c.s, got, c.want)
		}
	}
	extreme := Places([]int{2}, func(idx []int) int { return []int{math.MinInt, math.MaxInt}[idx[0]] })
	if !slices.Equal(extreme, []int{math.MinInt, math.MaxInt}) {
		t.Error(extreme)
	}
	if l := Places([]int{2, 3}, nil); len(l) > 0 {
		t.Error("no function:", l)
	}
}

// TestPlacesOfWriter: a function that writes into its index, or behind it, changes
// no other index.
func TestPlacesOfWriter(t *testing.T) {
	for _, s := range known {
		plain := Places(s, func(idx []int) int { at, _ := Place(s, idx); return at })
		wild := Places(s, func(idx []int) int {
			at, _ := Place(s, idx)
			for axis := range idx {
				idx[axis] = -5 - at
			}
			_ = append(idx, 77, 78)
			return at
		})
		if !slices.Equal(plain, wild) {
			t.Errorf("%v: %v", s, wild)
		}
		for at, n := range plain {
			if n != at {
				t.Errorf("%v: %d at %d", s, n, at)
			}
		}
	}
}

// TestPlacesWithin: a call within a call changes nothing in either.
func TestPlacesWithin(t *testing.T) {
	s := []int{2, 3}
	l := Places(s, func(idx []int) int {
		inner := Places(s, func(more []int) int { return 10*idx[0] + idx[1] + 100*more[0] + 1000*more[1] })
		return inner[5]
	})
	if !slices.Equal(l, []int{2100, 2101, 2102, 2110, 2111, 2112}) {
		t.Error(l)
	}
}

// TestMemory: what is handed in isn't changed, not even behind its end, and what is
// answered shares no memory with it.
func TestMemory(t *testing.T) {
	for _, s := range append(slices.Clone(known), wrong...) {
		in := roomy(s)
		was := rest(in)
		idx := roomy(make([]int, len(s)))
		wasIdx := rest(idx)
		Place(in, idx)
		first, _ := Index(in, 0)
		first = first[:cap(first)]
		Split(in, 0)
		Same(in, idx)
		answers := [][]int{
			Strides(in), first, With(in, 0, 5), With(in, -1, 5), With(in, len(s)-1, 5), With(in, len(s), 5),
			Without(in, 0), Without(in, -1), Without(in, len(s)-1), Without(in, len(s)),
			Join(in), Join(in, in), Join(nil, in), Join(in, nil), Join(),
			Places(in, func(idx []int) int { return len(idx) }),
		}
		for i, l := range answers {
			keep := make([][]int, len(answers))
			for j, m := range answers {
				keep[j] = slices.Clone(m)
			}
			for at := range l[:cap(l)] {
				l[:cap(l)][at] = -99
			}
			for j, m := range answers {
				if j != i && !slices.Equal(m, keep[j]) {
					t.Fatalf("%v: answers %d and %d share memory", s, i, j)
				}
			}
		}
		if !slices.Equal(rest(in), was) || !slices.Equal(rest(idx), wasIdx) {
			t.Fatalf("%v: changed to %v", s, rest(in))
		}
	}
}

// TestKept: what was answered doesn't change with what was handed in.
func TestKept(t *testing.T) {
	in := roomy([]int{2, 3, 4})
	answers := [][]int{With(in, 3, 9), With(in, 1, 9), Without(in, 1), Without(in, 5), Join(in), Join(in, in), Strides(in)}
	for at := range in {
		in[at] = 8
	}
	want := [][]int{{2, 3, 4}, {2, 9, 4}, {2, 4}, {2, 3, 4}, {2, 3, 4}, {2, 3, 4, 2, 3, 4}, {12, 4, 1}}
	if !slices.EqualFunc(answers, want, slices.Equal[[]int]) {
		t.Error(answers)
	}
}

// TestJoinOfList: the list of shapes itself isn't changed either.
func TestJoinOfList(t *testing.T) {
	l := [][]int{{2}, {3, 4}, nil}
	got := Join(l...)
	got[0], got[1] = 7, 7
	if !slices.EqualFunc(l, [][]int{{2}, {3, 4}, nil}, slices.Equal[[]int]) {
		t.Error(l)
	}
}

// TestLikeArray: positions are those of an array's elements.
func TestLikeArray(t *testing.T) {
	a, _ := array.Chars([]int{2, 3}, []rune("abcdef")...)
	for at, want := range []rune("abcdef") {
		idx, _ := Index(a.Shape(), at)
		n, ok := Place(a.Shape(), idx)
		if !ok || a.Rune(n) != want {
			t.Errorf("%v: %q", idx, a.Rune(n))
		}
	}
}
