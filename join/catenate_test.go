package join

import (
	"math"
	"slices"
	"testing"

	"typeball/api"
	"typeball/array"
)

func TestCatenate(t *testing.T) {
	for _, c := range []joining{
		// Two without axes: along the one axis of the result.
		{a: ":5", b: ":7", axis: 0, want: "2:5 7"},
		{a: ":5", b: ":-1/2", axis: last, want: "2:5 -1/2"},
		{a: "'x", b: "'y", axis: 0, want: "2'xy"},
		{a: "'x", b: "'y", axis: math.MinInt, want: "2'xy"},
		{a: ":5", b: ":7", axis: 1, wantE: api.ErrRank},
		{a: "'x", b: "'y", axis: math.MaxInt, wantE: api.ErrRank},

		// One without axes, and one with axes.
		{a: "2:1 2", b: ":3", axis: last, want: "3:1 2 3"},
		{a: ":3", b: "2:1 2", axis: 0, want: "3:3 1 2"},
		{a: "'x", b: "2'ab", axis: last, want: "3'xab"},
		{a: "2'ab", b: "'x", axis: 0, want: "3'abx"},
		{a: "2'ab", b: "'x", axis: 1, wantE: api.ErrRank},
		{a: "'x", b: "2'ab", axis: 1, wantE: api.ErrRank},
		{a: "2 3:1 2 3 4 5 6", b: ":7", axis: 0, want: "3 3:1 2 3 4 5 6 7 7 7"},
		{a: "2 3:1 2 3 4 5 6", b: ":7", axis: 1, want: "2 4:1 2 3 7 4 5 6 7"},
		{a: ":7", b: "2 3:1 2 3 4 5 6", axis: 0, want: "3 3:7 7 7 1 2 3 4 5 6"},
		{a: ":7", b: "2 3:1 2 3 4 5 6", axis: last, want: "2 4:7 1 2 3 7 4 5 6"},
		{a: "'x", b: "2 2 3'abcdefghijkl", axis: 0, want: "3 2 3'xxxxxxabcdefghijkl"},
		{a: "'x", b: "2 2 3'abcdefghijkl", axis: 1, want: "2 3 3'xxxabcdefxxxghijkl"},
		{a: "2 2 3'abcdefghijkl", b: "'x", axis: 2, want: "2 2 4'abcxdefxghixjklx"},
		{a: "2 2 3'abcdefghijkl", b: "'x", axis: 3, wantE: api.ErrRank},

		// As many axes.
		{a: "2:1 2", b: "3:3 4 5", axis: 0, want: "5:1 2 3 4 5"},
		{a: "2'ab", b: "3'cde", axis: last, want: "5'abcde"},
		{a: "2:1 2", b: "2:1 2", axis: 1, wantE: api.ErrRank},
		{a: "1 3:1 2 3", b: "2 3:4 5 6 7 8 9", axis: 0, want: "3 3:1 2 3 4 5 6 7 8 9"},
		{a: "2 1:1 2", b: "2 3:4 5 6 7 8 9", axis: 1, want: "2 4:1 4 5 6 2 7 8 9"},
		{a: "2 3'abcdef", b: "2 2'uvwx", axis: last, want: "2 5'abcuvdefwx"},
		{a: "2 3'abcdef", b: "2 2'uvwx", axis: -2, want: "2 5'abcuvdefwx"},
		{a: "2 3'abcdef", b: "2 2'uvwx", axis: 0, wantE: api.ErrLength},
		{a: "1 3:1 2 3", b: "2 3:4 5 6 7 8 9", axis: 1, wantE: api.ErrLength},
		{a: "1 3:1 2 3", b: "2 3:4 5 6 7 8 9", axis: 2, wantE: api.ErrRank},
		{a: "2 3'abcdef", b: "3 2'uvwxyz", axis: 0, wantE: api.ErrLength},
		{a: "2 3'abcdef", b: "3 2'uvwxyz", axis: 1, wantE: api.ErrLength},
		{a: "2 1 2'abcd", b: "2 2 2'stuvwxyz", axis: 1, want: "2 3 2'abstuvcdwxyz"},
		{a: "2 1 2'abcd", b: "2 2 2'stuvwxyz", axis: 0, wantE: api.ErrLength},
		{a: "2 1 2'abcd", b: "2 2 2'stuvwxyz", axis: 2, wantE: api.ErrLength},
		{a: "1 2 1'ab", b: "1 2 1'yz", axis: 0, want: "2 2 1'abyz"},
		{a: "1 2 1'ab", b: "1 2 1'yz", axis: 1, want: "1 4 1'abyz"},
		{a: "1 2 1'ab", b: "1 2 1'yz", axis: 2, want: "1 2 2'aybz"},

		// One axis less.
		{a: "2 3:1 2 3 4 5 6", b: "3:7 8 9", axis: 0, want: "3 3:1 2 3 4 5 6 7 8 9"},
		{a: "2 3:1 2 3 4 5 6", b: "2:7 8", axis: 1, want: "2 4:1 2 3 7 4 5 6 8"},
		{a: "3:7 8 9", b: "2 3:1 2 3 4 5 6", axis: 0, want: "3 3:7 8 9 1 2 3 4 5 6"},
		{a: "2'xy", b: "2 3'abcdef", axis: last, want: "2 4'xabcydef"},
		{a: "2 3:1 2 3 4 5 6", b: "2:7 8", axis: 0, wantE: api.ErrLength},
		{a: "2 3:1 2 3 4 5 6", b: "3:7 8 9", axis: 1, wantE: api.ErrLength},
		{a: "2'xy", b: "2 3'abcdef", axis: 0, wantE: api.ErrLength},
		{a: "3'xyz", b: "2 3'abcdef", axis: last, wantE: api.ErrLength},
		{a: "1'x", b: "2 3'abcdef", axis: last, wantE: api.ErrLength},
		{a: "2 3'abcdef", b: "1'x", axis: 0, wantE: api.ErrLength},
		{a: "3'xyz", b: "2 3'abcdef", axis: 2, wantE: api.ErrRank},
		{a: "2 3'xyzuvw", b: "1 2 3'abcdef", axis: 0, want: "2 2 3'xyzuvwabcdef"},
		{a: "1 3'xyz", b: "1 2 3'abcdef", axis: 1, want: "1 3 3'xyzabcdef"},
		{a: "1 2 3'abcdef", b: "1 2'yz", axis: 2, want: "1 2 4'abcydefz"},
		{a: "1 2 3'abcdef", b: "2 3'xyzuvw", axis: 1, wantE: api.ErrLength},
		{a: "1 2 3'abcdef", b: "2 1'yz", axis: 2, wantE: api.ErrLength},

		// Two axes less, or more than that.
		{a: "1 2 3'abcdef", b: "3'xyz", axis: 0, wantE: api.ErrRank},
		{a: "1 2 3'abcdef", b: "2'xy", axis: last, wantE: api.ErrRank},
		{a: "1'x", b: "1 1 1'a", axis: 1, wantE: api.ErrRank},
		{a: "3'xyz", b: "1 2 3'abcdef", axis: 3, wantE: api.ErrRank},
		{a: "1 1 1 1 1 1 1 1:5", b: "1:6", axis: 7, wantE: api.ErrRank},
		{a: "1 1 1 1 1 1 1 1:5", b: "1 1 1 1 1 1:6", axis: 7, wantE: api.ErrRank},
		{a: "1 1 1 1 1 1 1 1:5", b: "1 1 1 1 1 1 1:6", axis: 7, want: "1 1 1 1 1 1 1 2:5 6"},
		{a: "1 1 1 1 1 1 1 1:5", b: "1 1 1 1 1 1 1:6", axis: 8, wantE: api.ErrRank},
		{a: "1 1 1 1 1 1 1 1:5", b: ":6", axis: 3, want: "1 1 1 2 1 1 1 1:5 6"},

		// Axes of length 0.
		{a: "0:", b: "2:1 2", axis: 0, want: "2:1 2"},
		{a: "2:1 2", b: "0:", axis: last, want: "2:1 2"},
		{a: "0:", b: "0:", axis: 0, want: "0:"},
		{a: "0:", b: ":5", axis: 0, want: "1:5"},
		{a: "'x", b: "0'", axis: last, want: "1'x"},
		{a: "0:", b: ":5", axis: 1, wantE: api.ErrRank},
		{a: "0 3:", b: ":5", axis: 0, want: "1 3:5 5 5"},
		{a: "0 3:", b: ":5", axis: 1, want: "0 4:"},
		{a: "'x", b: "2 0'", axis: 0, want: "3 0'"},
		{a: "'x", b: "2 0'", axis: 1, want: "2 1'xx"},
		{a: "0 3'", b: "2 3'abcdef", axis: 0, want: "2 3'abcdef"},
		{a: "0 3'", b: "2 3'abcdef", axis: 1, wantE: api.ErrLength},
		{a: "0 3'", b: "0 2'", axis: 1, want: "0 5'"},
		{a: "0 3'", b: "0 2'", axis: 0, wantE: api.ErrLength},
		{a: "0 3'", b: "3'abc", axis: 0, want: "1 3'abc"},
		{a: "0'", b: "0 3'", axis: 1, want: "0 4'"},
		{a: "0'", b: "0 3'", axis: 0, wantE: api.ErrLength},
		{a: "2'ab", b: "2 0'", axis: 1, want: "2 1'ab"},
		{a: "0'", b: "2 0'", axis: 0, want: "3 0'"},
		{a: "0'", b: "2 0'", axis: 1, wantE: api.ErrLength},
		{a: "0'", b: "2 3'abcdef", axis: 1, wantE: api.ErrLength},
		{a: "0'", b: "1 2 0'", axis: 1, wantE: api.ErrRank},

		// Numbers and characters, one or both without elements.
		{a: "2'ab", b: "0:", axis: last, want: "2'ab"},
		{a: "0'", b: "2:1 2", axis: 0, want: "2:1 2"},
		{a: "0:", b: "2'ab", axis: 0, want: "2'ab"},
		{a: "2:1 2", b: "0'", axis: 0, want: "2:1 2"},
		{a: "0:", b: "'x", axis: 0, want: "1'x"},
		{a: ":5", b: "0'", axis: 0, want: "1:5"},
		{a: "0:", b: "0'", axis: 0, want: "0:"},
		{a: "0'", b: "0:", axis: 0, want: "0'"},
		{a: "0 3:", b: "'x", axis: 1, want: "0 4'"},
		{a: "0 3'", b: ":5", axis: 1, want: "0 4:"},
		{a: "'x", b: "0 3:", axis: 1, want: "0 4'"},
		{a: "0 3'", b: "3:1 2 3", axis: 0, want: "1 3:1 2 3"},
		{a: "2'ab", b: "2 0:", axis: 1, want: "2 1'ab"},
		{a: "0'", b: "2 0:", axis: 0, want: "3 0'"},
		{a: "2 0:", b: "0'", axis: 0, want: "3 0:"},
		{a: "0 3'", b: "0 2:", axis: 1, want: "0 5'"},
		{a: "0:", b: "2'ab", axis: 1, wantE: api.ErrRank},
		{a: "0 3:", b: "2 2'abcd", axis: 0, wantE: api.ErrLength},
		{a: "0'", b: "1 1 1:5", axis: 0, wantE: api.ErrRank},

		// Numbers with characters.
		{a: ":5", b: "'x", axis: 0, wantE: api.ErrDomain},
		{a: "2'ab", b: ":5", axis: 0, wantE: api.ErrDomain},
		{a: "2'ab", b: ":5", axis: 1, wantE: api.ErrDomain},
		{a: "2:1 2", b: "3'abc", axis: last, wantE: api.ErrDomain},
		{a: "2 3'abcdef", b: "2:1 2", axis: 0, wantE: api.ErrDomain},
		{a: "1'a", b: "1 1 1:5", axis: 0, wantE: api.ErrDomain},
	} {
		c.holds(t, Catenate)
	}
}

// TestCatenateToTheLimit: a result that is just a shape, and one that is none; other
// errors come first.
func TestCatenateToTheLimit(t *testing.T) {
	for _, c := range []shaping{
		{s: []int{4095}, r: nil, axis: 0, want: []int{4096}},
		{s: nil, r: []int{4095}, axis: last, want: []int{4096}},
		{s: []int{4096}, r: nil, axis: 0, wantE: api.ErrLimit},
		{s: nil, r: []int{4096}, axis: 0, wantE: api.ErrLimit},
		{s: []int{4096}, r: nil, axis: 1, wantE: api.ErrRank},
		{s: []int{4096}, r: []int{0}, axis: 0, want: []int{4096}},
		{s: []int{4096}, r: []int{1}, axis: 0, wantE: api.ErrLimit},
		{s: []int{2048}, r: []int{2048}, axis: last, want: []int{4096}},
		{s: []int{2048}, r: []int{2049}, axis: last, wantE: api.ErrLimit},
		{s: []int{4096}, r: []int{4096}, axis: 0, wantE: api.ErrLimit},
		{s: []int{64, 63}, r: []int{64}, axis: 1, want: []int{64, 64}},
		{s: []int{63, 64}, r: []int{64}, axis: 0, want: []int{64, 64}},
		{s: []int{64}, r: []int{64, 64}, axis: 1, wantE: api.ErrLimit},
		{s: []int{64, 64}, r: []int{64}, axis: 0, wantE: api.ErrLimit},
		{s: []int{64, 64}, r: []int{63}, axis: 0, wantE: api.ErrLength},
		{s: []int{64, 64}, r: []int{64}, axis: 2, wantE: api.ErrRank},
		{s: []int{64, 64}, r: nil, axis: last, wantE: api.ErrLimit},
		{s: nil, r: []int{64, 64}, axis: 0, wantE: api.ErrLimit},
		{s: []int{64, 63}, r: nil, axis: 0, want: []int{65, 63}},
		{s: []int{64, 63}, r: nil, axis: 1, want: []int{64, 64}},
		{s: []int{64, 32}, r: []int{64, 32}, axis: 0, want: []int{128, 32}},
		{s: []int{64, 32}, r: []int{64, 33}, axis: 1, wantE: api.ErrLimit},
		{s: []int{64, 32}, r: []int{64, 33}, axis: 0, wantE: api.ErrLength},
		{s: []int{64, 64}, r: []int{64, 64}, axis: 2, wantE: api.ErrRank},
		{s: []int{0, 4096}, r: nil, axis: 0, want: []int{1, 4096}},
		{s: []int{0, 4096}, r: nil, axis: 1, wantE: api.ErrLimit},
		{s: []int{0, 4095}, r: nil, axis: 1, want: []int{0, 4096}},
		{s: []int{1, 4096}, r: nil, axis: 0, wantE: api.ErrLimit},
		{s: []int{0, 4096}, r: []int{0, 4096}, axis: 0, want: []int{0, 4096}},
		{s: []int{0, 4096}, r: []int{0, 1}, axis: 1, wantE: api.ErrLimit},
		{s: []int{0, 4096}, r: []int{0, 1}, axis: 0, wantE: api.ErrLength},
		{s: []int{4096, 0}, r: []int{4096}, axis: 1, want: []int{4096, 1}},
		{s: []int{4096, 0}, r: []int{0}, axis: 0, wantE: api.ErrLimit},
		{s: []int{4096, 0}, r: []int{1, 0}, axis: 0, wantE: api.ErrLimit},
		{s: []int{4096, 1}, r: []int{4096}, axis: 1, wantE: api.ErrLimit},
		{s: []int{64, 0, 64}, r: []int{64, 1, 64}, axis: 1, want: []int{64, 1, 64}},
		{s: []int{64, 1, 64}, r: []int{64, 1, 64}, axis: 1, wantE: api.ErrLimit},
		{s: []int{64, 0, 64}, r: []int{1, 0, 64}, axis: 0, wantE: api.ErrLimit},
		{s: []int{8, 8, 8, 4, 1, 1, 1, 1}, r: []int{8, 8, 8, 4, 1, 1, 1, 1}, axis: 5, want: []int{8, 8, 8, 4, 1, 2, 1, 1}},
		{s: []int{8, 8, 8, 8, 1, 1, 1, 1}, r: []int{8, 8, 8, 8, 1, 1, 1}, axis: 5, wantE: api.ErrLimit},
		{s: []int{8, 8, 8, 8, 1, 1, 1}, r: []int{8, 8, 8, 8, 1}, axis: 5, wantE: api.ErrRank},
	} {
		c.holds(t, Catenate)
	}
}

// extendedGrid is a grid with its length along an axis of s, as Catenate extends it.
type extendedGrid struct {
	long int
	at   func(idx []int) string
}

// extendedOf is a grid extended to s along an axis, element by element.
func extendedOf(g grid, s []int, axis int) (extendedGrid, api.Errno) {
	rest := append(slices.Clone(s[:axis]), s[axis+1:]...)
	without := func(idx []int) []int { return slices.Delete(slices.Clone(idx), axis, axis+1) }
	switch {
	case len(g.s) == 0:
		return extendedGrid{1, g.at}, api.OK
	case len(g.s) == len(s) && slices.Equal(without(g.s), rest):
		return extendedGrid{g.s[axis], g.at}, api.OK
	case len(g.s) == len(rest) && slices.Equal(g.s, rest):
		return extendedGrid{1, func(idx []int) string { return g.at(without(idx)) }}, api.OK
	case len(g.s) == len(s) || len(g.s) == len(rest):
		return extendedGrid{}, api.ErrLength
	}
	return extendedGrid{}, api.ErrRank
}

// catenateOf is what Catenate answers, worked out element by element.
func catenateOf(a, b array.Array, axis int) (string, api.Errno) {
	char, ok := kindOf(a, b)
	if !ok {
		return "", api.ErrDomain
	}
	s := []int{1}
	if n := max(a.Rank(), b.Rank()); n > 0 {
		s = a.Shape()
		if b.Rank() == n && a.Rank() < n {
			s = b.Shape()
		}
	}
	if axis < 0 {
		axis = len(s) - 1
	}
	if axis >= len(s) {
		return "", api.ErrRank
	}
	x, e := extendedOf(gridOf(a), s, axis)
	if e != api.OK {
		return "", e
	}
	y, e := extendedOf(gridOf(b), s, axis)
	if e != api.OK {
		return "", e
	}
	s[axis] = x.long + y.long
	g, e := gridBy(s, char, func(idx []int) string {
		if idx[axis] < x.long {
			return x.at(idx)
		}
		idx[axis] -= x.long
		return y.at(idx)
	})
	return g.tell(), e
}

// TestCatenateOfAll: each two arrays along each axis, against another way of working
// it out.
func TestCatenateOfAll(t *testing.T) {
	for _, s := range known {
		for _, r := range known {
			pairs(t, s, r, func(a, b array.Array) {
				for axis := -1; axis <= max(len(s), len(r), 1); axis++ {
					want, wantE := catenateOf(a, b, axis)
					c, e := Catenate(a, b, axis)
					isOrFails(t, short(tell(a), " and ", tell(b), " along ", axis), c, e, want, wantE)
				}
			})
		}
	}
}

// TestCatenateAxes: an axis below 0 is the last one of the array with more axes; one
// beyond the last there isn't.
func TestCatenateAxes(t *testing.T) {
	for _, s := range known {
		for _, r := range [][]int{nil, s, s[:max(len(s)-1, 0)]} {
			b := both(t, r, 7000)
			for i, a := range both(t, s, 0) {
				end := max(len(s), 1) - 1
				want, wantE := Catenate(a, b[i], end)
				if wantE != api.OK {
					t.Fatal(s, r, wantE)
				}
				for _, axis := range []int{-1, -2, -9, math.MinInt} {
					c, e := Catenate(a, b[i], axis)
					is(t, short(s, " and ", r, " along ", axis), c, e, tell(want))
				}
				for _, axis := range []int{end + 1, end + 2, 8, 9, math.MaxInt} {
					c, e := Catenate(a, b[i], axis)
					fails(t, short(s, " and ", r, " along ", axis), c, e, api.ErrRank)
					c, e = Catenate(b[i], a, axis)
					fails(t, short(r, " and ", s, " along ", axis), c, e, api.ErrRank)
				}
			}
		}
	}
}
