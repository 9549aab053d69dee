package join

import (
	"math"
	"slices"
	"testing"

	"typeball/api"
	"typeball/array"
)

func TestLaminate(t *testing.T) {
	for _, c := range []joining{
		// Two without axes.
		{a: ":5", b: ":7", axis: 0, want: "2:5 7"},
		{a: "'x", b: "'y", axis: 0, want: "2'xy"},
		{a: ":5", b: ":7", axis: 1, wantE: api.ErrRank},
		{a: ":5", b: ":7", axis: -1, wantE: api.ErrRank},
		{a: "'x", b: "'y", axis: math.MaxInt, wantE: api.ErrRank},

		// One without axes, and one with axes.
		{a: "2:1 2", b: ":5", axis: 0, want: "2 2:1 2 5 5"},
		{a: "2:1 2", b: ":5", axis: 1, want: "2 2:1 5 2 5"},
		{a: "'x", b: "3'abc", axis: 0, want: "2 3'xxxabc"},
		{a: "'x", b: "3'abc", axis: 1, want: "3 2'xaxbxc"},
		{a: "'x", b: "3'abc", axis: 2, wantE: api.ErrRank},
		{a: "3'abc", b: "'x", axis: 2, wantE: api.ErrRank},
		{a: "3'abc", b: "'x", axis: -1, wantE: api.ErrRank},
		{a: ":7", b: "2 3:1 2 3 4 5 6", axis: 0, want: "2 2 3:7 7 7 7 7 7 1 2 3 4 5 6"},
		{a: ":7", b: "2 3:1 2 3 4 5 6", axis: 1, want: "2 2 3:7 7 7 1 2 3 7 7 7 4 5 6"},
		{a: "2 3:1 2 3 4 5 6", b: ":7", axis: 2, want: "2 3 2:1 7 2 7 3 7 4 7 5 7 6 7"},
		{a: "2 3:1 2 3 4 5 6", b: ":7", axis: 3, wantE: api.ErrRank},

		// The same shape.
		{a: "2:1 2", b: "2:3 4", axis: 0, want: "2 2:1 2 3 4"},
		{a: "2:1 2", b: "2:3 4", axis: 1, want: "2 2:1 3 2 4"},
		{a: "2:1 2", b: "2:3 4", axis: 2, wantE: api.ErrRank},
		{a: "2:1 2", b: "2:3 4", axis: -1, wantE: api.ErrRank},
		{a: "2:1 2", b: "2:3 4", axis: math.MinInt, wantE: api.ErrRank},
		{a: "3:1/2 -2/3 5", b: "3:7 8 -9", axis: 1, want: "3 2:1/2 7 -2/3 8 5 -9"},
		{a: "1'a", b: "1'b", axis: 0, want: "2 1'ab"},
		{a: "1'a", b: "1'b", axis: 1, want: "1 2'ab"},
		{a: "2 3'abcdef", b: "2 3'uvwxyz", axis: 0, want: "2 2 3'abcdefuvwxyz"},
		{a: "2 3'abcdef", b: "2 3'uvwxyz", axis: 1, want: "2 2 3'abcuvwdefxyz"},
		{a: "2 3'abcdef", b: "2 3'uvwxyz", axis: 2, want: "2 3 2'aubvcwdxeyfz"},
		{a: "2 3'abcdef", b: "2 3'uvwxyz", axis: 3, wantE: api.ErrRank},
		{a: "2 1 2'abcd", b: "2 1 2'wxyz", axis: 0, want: "2 2 1 2'abcdwxyz"},
		{a: "2 1 2'abcd", b: "2 1 2'wxyz", axis: 1, want: "2 2 1 2'abwxcdyz"},
		{a: "2 1 2'abcd", b: "2 1 2'wxyz", axis: 2, want: "2 1 2 2'abwxcdyz"},
		{a: "2 1 2'abcd", b: "2 1 2'wxyz", axis: 3, want: "2 1 2 2'awbxcydz"},

		// Another shape of as many axes.
		{a: "2:1 2", b: "3:3 4 5", axis: 0, wantE: api.ErrLength},
		{a: "2:1 2", b: "1:3", axis: 0, wantE: api.ErrLength},
		{a: "1'a", b: "2'yz", axis: 1, wantE: api.ErrLength},
		{a: "2 3'abcdef", b: "3 2'uvwxyz", axis: 0, wantE: api.ErrLength},
		{a: "2 3'abcdef", b: "2 2'wxyz", axis: 1, wantE: api.ErrLength},
		{a: "2 3'abcdef", b: "1 3'xyz", axis: 2, wantE: api.ErrLength},
		{a: "2 3'abcdef", b: "3 2'uvwxyz", axis: 3, wantE: api.ErrRank},
		{a: "2:1 2", b: "3:3 4 5", axis: -1, wantE: api.ErrRank},

		// Another number of axes.
		{a: "2:1 2", b: "2 2:3 4 5 6", axis: 0, wantE: api.ErrRank},
		{a: "2 2:3 4 5 6", b: "2:1 2", axis: 0, wantE: api.ErrRank},
		{a: "1'a", b: "1 1'b", axis: 1, wantE: api.ErrRank},
		{a: "1 1'b", b: "1'a", axis: 1, wantE: api.ErrRank},
		{a: "1 2 3'abcdef", b: "3'xyz", axis: 3, wantE: api.ErrRank},
		{a: "3'xyz", b: "1 2 3'abcdef", axis: 4, wantE: api.ErrRank},

		// Of 7 and of 8 axes.
		{a: "1 1 1 1 1 1 1:5", b: "1 1 1 1 1 1 1:6", axis: 7, want: "1 1 1 1 1 1 1 2:5 6"},
		{a: "1 1 1 1 1 1 1:5", b: "1 1 1 1 1 1 1:6", axis: 0, want: "2 1 1 1 1 1 1 1:5 6"},
		{a: "1 1 1 1 1 1 1:5", b: "1 1 1 1 1 1 1:6", axis: 8, wantE: api.ErrRank},
		{a: "1 1 1 1 1 1 1:5", b: ":6", axis: 3, want: "1 1 1 2 1 1 1 1:5 6"},
		{a: ":6", b: "1 1 1 1 1 1 1:5", axis: 3, want: "1 1 1 2 1 1 1 1:6 5"},
		{a: "1 1 1 1 1 1 1:5", b: "1 1 1 1 1 1 2:6 7", axis: 0, wantE: api.ErrLength},
		{a: "1 1 1 1 1 1 1:5", b: "1 1 1 1 1 1 1 1:6", axis: 0, wantE: api.ErrRank},
		{a: "1 1 1 1 1 1 1 1:5", b: "1 1 1 1 1 1 1 1:6", axis: 0, wantE: api.ErrRank},
		{a: "1 1 1 1 1 1 1 1:5", b: "1 1 1 1 1 1 1 1:6", axis: 8, wantE: api.ErrRank},
		{a: "1 1 1 1 1 1 1 1:5", b: "1 1 1 1 1 1 1 2:6 7", axis: 0, wantE: api.ErrRank},
		{a: "1 1 1 1 1 1 1 1:5", b: "1 1 1 1 1 1 1:6", axis: 0, wantE: api.ErrRank},
		{a: "1 1 1 1 1 1 1 1:5", b: ":6", axis: 0, wantE: api.ErrRank},
		{a: ":6", b: "1 1 1 1 1 1 1 1:5", axis: 0, wantE: api.ErrRank},

		// Axes of length 0.
		{a: "0:", b: "0:", axis: 0, want: "2 0:"},
		{a: "0'", b: "0'", axis: 1, want: "0 2'"},
		{a: "0:", b: "0:", axis: 2, wantE: api.ErrRank},
		{a: "0:", b: ":5", axis: 0, want: "2 0:"},
		{a: "'x", b: "0'", axis: 1, want: "0 2'"},
		{a: "0 3'", b: "0 3'", axis: 1, want: "0 2 3'"},
		{a: "3 0'", b: "'x", axis: 2, want: "3 0 2'"},
		{a: "0:", b: "1:5", axis: 0, wantE: api.ErrLength},
		{a: "2'ab", b: "0'", axis: 0, wantE: api.ErrLength},
		{a: "3 0'", b: "0 3'", axis: 0, wantE: api.ErrLength},
		{a: "0'", b: "0 3'", axis: 0, wantE: api.ErrRank},

		// Numbers and characters, one or both without elements.
		{a: "0:", b: "0'", axis: 0, want: "2 0:"},
		{a: "0'", b: "0:", axis: 1, want: "0 2'"},
		{a: "0:", b: "'x", axis: 0, want: "2 0'"},
		{a: "0'", b: ":5", axis: 0, want: "2 0:"},
		{a: "'x", b: "0:", axis: 1, want: "0 2'"},
		{a: ":5", b: "3 0'", axis: 0, want: "2 3 0:"},
		{a: "3 0'", b: "3 0:", axis: 2, want: "3 0 2'"},
		{a: "0:", b: "2'ab", axis: 0, wantE: api.ErrLength},
		{a: "2:1 2", b: "0'", axis: 0, wantE: api.ErrLength},
		{a: "0'", b: "1 1:5", axis: 0, wantE: api.ErrRank},
		{a: "0'", b: ":5", axis: 2, wantE: api.ErrRank},

		// Numbers with characters.
		{a: ":5", b: "'x", axis: 0, wantE: api.ErrDomain},
		{a: ":5", b: "'x", axis: -1, wantE: api.ErrDomain},
		{a: "2'ab", b: ":5", axis: 0, wantE: api.ErrDomain},
		{a: "2:1 2", b: "3'abc", axis: 0, wantE: api.ErrDomain},
		{a: "2 1'ab", b: "2:1 2", axis: 5, wantE: api.ErrDomain},
		{a: "1 1 1 1 1 1 1 1'a", b: ":6", axis: 0, wantE: api.ErrDomain},
	} {
		c.holds(t, Laminate)
	}
}

// TestLaminateToTheLimit: a result that is just a shape, and one that is none; other
// errors come first.
func TestLaminateToTheLimit(t *testing.T) {
	for _, c := range []shaping{
		{s: []int{2048}, r: []int{2048}, axis: 0, want: []int{2, 2048}},
		{s: []int{2048}, r: []int{2048}, axis: 1, want: []int{2048, 2}},
		{s: []int{2049}, r: []int{2049}, axis: 0, wantE: api.ErrLimit},
		{s: []int{2049}, r: []int{2049}, axis: 1, wantE: api.ErrLimit},
		{s: []int{4096}, r: []int{4096}, axis: 0, wantE: api.ErrLimit},
		{s: []int{2048}, r: nil, axis: 1, want: []int{2048, 2}},
		{s: nil, r: []int{2048}, axis: 0, want: []int{2, 2048}},
		{s: []int{2049}, r: nil, axis: 1, wantE: api.ErrLimit},
		{s: nil, r: []int{2049}, axis: 0, wantE: api.ErrLimit},
		{s: []int{4096}, r: []int{4095}, axis: 0, wantE: api.ErrLength},
		{s: []int{4096}, r: []int{4096}, axis: 2, wantE: api.ErrRank},
		{s: []int{4096}, r: []int{4096}, axis: -1, wantE: api.ErrRank},
		{s: []int{4096}, r: []int{64, 64}, axis: 0, wantE: api.ErrRank},
		{s: []int{64, 32}, r: []int{64, 32}, axis: 1, want: []int{64, 2, 32}},
		{s: []int{64, 33}, r: []int{64, 33}, axis: 1, wantE: api.ErrLimit},
		{s: []int{64, 64}, r: []int{64, 64}, axis: 2, wantE: api.ErrLimit},
		{s: []int{0, 2048}, r: []int{0, 2048}, axis: 1, want: []int{0, 2, 2048}},
		{s: []int{0, 2049}, r: []int{0, 2049}, axis: 1, wantE: api.ErrLimit},
		{s: []int{2049, 0}, r: nil, axis: 0, wantE: api.ErrLimit},
		{s: nil, r: []int{2048, 0}, axis: 2, want: []int{2048, 0, 2}},
		{s: []int{8, 8, 8, 4, 1, 1, 1}, r: []int{8, 8, 8, 4, 1, 1, 1}, axis: 7, want: []int{8, 8, 8, 4, 1, 1, 1, 2}},
		{s: []int{8, 8, 8, 5, 1, 1, 1}, r: []int{8, 8, 8, 5, 1, 1, 1}, axis: 7, wantE: api.ErrLimit},
		{s: []int{8, 8, 8, 8, 1, 1, 1, 1}, r: []int{8, 8, 8, 8, 1, 1, 1, 1}, axis: 0, wantE: api.ErrRank},
		{s: nil, r: []int{8, 8, 8, 8, 1, 1, 1, 1}, axis: 0, wantE: api.ErrRank},
	} {
		c.holds(t, Laminate)
	}
}

// laminateOf is what Laminate answers, worked out element by element.
func laminateOf(a, b array.Array, axis int) (string, api.Errno) {
	char, ok := kindOf(a, b)
	if !ok {
		return "", api.ErrDomain
	}
	s, r := a.Shape(), b.Shape()
	if len(s) == 0 {
		s = r
	}
	if axis < 0 || axis > len(s) || len(s) == 8 || len(r) > 0 && len(r) != len(s) {
		return "", api.ErrRank
	}
	if len(r) > 0 && !slices.Equal(r, s) {
		return "", api.ErrLength
	}
	sides := []grid{gridOf(a), gridOf(b)}
	g, e := gridBy(slices.Insert(slices.Clone(s), axis, 2), char, func(idx []int) string {
		return sides[idx[axis]].at(slices.Delete(slices.Clone(idx), axis, axis+1))
	})
	return g.tell(), e
}

// TestLaminateOfAll: each two arrays along each axis, and along those that there
// aren't, against another way of working it out.
func TestLaminateOfAll(t *testing.T) {
	for _, s := range known {
		for _, r := range known {
			pairs(t, s, r, func(a, b array.Array) {
				for _, axis := range []int{math.MinInt, -1, 0, 1, 2, 3, 4, 5, 6, 7, 8, 9, math.MaxInt} {
					want, wantE := laminateOf(a, b, axis)
					c, e := Laminate(a, b, axis)
					isOrFails(t, short(tell(a), " and ", tell(b), " along ", axis), c, e, want, wantE)
				}
			})
		}
	}
}
