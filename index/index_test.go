package index

import (
	"math"
	"slices"
	"testing"

	"typeball/api"
	"typeball/array"
)

// indexing is a call of Index, with what it answers, or with its error.
type indexing struct {
	a, by  string
	origin int
	want   string
	wantE  api.Errno
}

// indexings are calls whose answers are written out.
var indexings = []indexing{
	// The chapter's example, and others of one axis.
	{a: "3:5 6 7", by: "2:3 1", origin: 1, want: "2:7 5"},
	{a: "3:5 6 7", by: "2:2 0", origin: 0, want: "2:7 5"},
	{a: "3:5 6 7", by: ":2", origin: 1, want: ":6"},
	{a: "3:5 6 7", by: ":2", origin: 0, want: ":7"},
	{a: "3:5 6 7", by: "1:2", origin: 1, want: "1:6"},
	{a: "3:5 6 7", by: "*", origin: 1, want: "3:5 6 7"},
	{a: "3:5 6 7", by: "0:", origin: 1, want: "0:"},
	{a: "3:5 6 7", by: "0'", origin: 1, want: "0:"},
	{a: "3'abc", by: "0:", origin: 1, want: "0'"},
	{a: "3'abc", by: "0'", origin: 0, want: "0'"},
	{a: "3'abc", by: "2 2:1 3 3 2", origin: 1, want: "2 2'accb"},
	{a: "3'abc", by: "1 1 1:0", origin: 0, want: "1 1 1'a"},
	{a: "3'abc", by: "5:2 2 2 1 2", origin: 1, want: "5'bbbab"},
	{a: "3'abc", by: "0 4:", origin: 1, want: "0 4'"},
	{a: "3'abc", by: "4 0'", origin: 1, want: "4 0'"},
	{a: "3:-1/2 0 99999999999999999999", by: "3:3 2 1", origin: 1, want: "3:99999999999999999999 0 -1/2"},
	{a: "1:5", by: "4:1 1 1 1", origin: 1, want: "4:5 5 5 5"},

	// With All, A is nothing.
	{a: "3'abc", by: "*:9", origin: 1, want: "3'abc"},
	{a: "3'abc", by: "*:1/2", origin: 1, want: "3'abc"},
	{a: "3'abc", by: "*'x", origin: 1, want: "3'abc"},
	{a: "3'abc", by: "*:99999999999999999999", origin: 1, want: "3'abc"},
	{a: "3'abc", by: "*2 2:1 2 3 4", origin: 1, want: "3'abc"},
	{a: "3'abc", by: "*1 1 1 1 1 1 1 1:1", origin: 0, want: "3'abc"},
	{a: "2 3'abcdef", by: "*0:;*:7", origin: 0, want: "2 3'abcdef"},

	// Without axes.
	{a: ":5", by: "", origin: 1, want: ":5"},
	{a: "'x", by: "", origin: 0, want: "'x"},
	{a: ":5", by: "*", origin: 1, wantE: api.ErrRank},
	{a: ":5", by: ":1", origin: 1, wantE: api.ErrRank},
	{a: "'x", by: "0:", origin: 1, wantE: api.ErrRank},
	{a: "'x", by: "'x", origin: 1, wantE: api.ErrRank},
	{a: "'x", by: "*;*", origin: 1, wantE: api.ErrRank},

	// Fewer or more Subs than axes, ahead of all that is wrong with them.
	{a: "3'abc", by: "", origin: 1, wantE: api.ErrRank},
	{a: "3'abc", by: "*;*", origin: 1, wantE: api.ErrRank},
	{a: "3'abc", by: ":9;:1/2", origin: 1, wantE: api.ErrRank},
	{a: "0:", by: "", origin: 1, wantE: api.ErrRank},
	{a: "2 3'abcdef", by: "*", origin: 1, wantE: api.ErrRank},
	{a: "2 3'abcdef", by: "'x", origin: 1, wantE: api.ErrRank},
	{a: "2 3'abcdef", by: "*;*;*", origin: 1, wantE: api.ErrRank},
	{a: "2 3'abcdef", by: "*;*;:1/2", origin: 1, wantE: api.ErrRank},
	{a: "2 3'abcdef", by: ":9;:9;:9", origin: 1, wantE: api.ErrRank},
	{a: "1 1 1 1 1 1 1 1'x", by: "*;*;*;*;*;*;*", origin: 1, wantE: api.ErrRank},
	{a: "1 1 1 1 1 1 1 1'x", by: "*;*;*;*;*;*;*;*;*", origin: 1, wantE: api.ErrRank},
	{a: "1 1 1 1 1 1 1 1'x", by: "*;*;*;*;*;*;*;*", origin: 1, want: "1 1 1 1 1 1 1 1'x"},

	// More axes.
	{a: "2 3:1 2 3 4 5 6", by: ":2;*", origin: 1, want: "3:4 5 6"},
	{a: "2 3:1 2 3 4 5 6", by: "*;:2", origin: 1, want: "2:2 5"},
	{a: "2 3:1 2 3 4 5 6", by: ":1;:2", origin: 0, want: ":6"},
	{a: "2 3:1 2 3 4 5 6", by: ":2;:3", origin: 1, want: ":6"},
	{a: "2 3:1 2 3 4 5 6", by: "*;2:2 0", origin: 0, want: "2 2:3 1 6 4"},
	{a: "2 3:1 2 3 4 5 6", by: "2:2 1;*", origin: 1, want: "2 3:4 5 6 1 2 3"},
	{a: "2 3:1 2 3 4 5 6", by: "2:2 1;3:3 1 3", origin: 1, want: "2 3:6 4 6 3 1 3"},
	{a: "2 3:1 2 3 4 5 6", by: "1:2;1:2", origin: 1, want: "1 1:5"},
	{a: "2 3:1 2 3 4 5 6", by: "0:;*", origin: 1, want: "0 3:"},
	{a: "2 3'abcdef", by: "*;0:", origin: 1, want: "2 0'"},
	{a: "2 3'abcdef", by: "0:;0'", origin: 1, want: "0 0'"},
	{a: "2 3'abcdef", by: "0:;:3", origin: 1, want: "0'"},
	{a: "2 3'abcdef", by: "0:;:4", origin: 1, wantE: api.ErrIndex},
	{a: "2 3'abcdef", by: ":3;0:", origin: 1, wantE: api.ErrIndex},
	{a: "2 3'abcdef", by: "2 2:1 2 2 1;2:3 1", origin: 1, want: "2 2 2'cafdfdca"},
	{a: "2 3'abcdef", by: "2:2 1;2 1:1 3", origin: 1, want: "2 2 1'dfac"},
	{a: "2 2 3'abcdefghijkl", by: ":2;*;2:1 2", origin: 1, want: "2 2'ghjk"},
	{a: "2 2 3'abcdefghijkl", by: "*;:0;:2", origin: 0, want: "2'ci"},
	{a: "2 2 3'abcdefghijkl", by: "2:1 0;:1;2 1:0 2", origin: 0, want: "2 2 1'jldf"},
	{a: "2 2 3'abcdefghijkl", by: "0 5:;:1;2 1:0 2", origin: 0, want: "0 5 2 1'"},

	// An axis of length 0.
	{a: "0:", by: "*", origin: 1, want: "0:"},
	{a: "0'", by: "*", origin: 0, want: "0'"},
	{a: "0'", by: "0:", origin: 1, want: "0'"},
	{a: "0'", by: "3 0:", origin: 1, want: "3 0'"},
	{a: "0:", by: ":1", origin: 1, wantE: api.ErrIndex},
	{a: "0:", by: ":0", origin: 0, wantE: api.ErrIndex},
	{a: "0'", by: "1:0", origin: 1, wantE: api.ErrIndex},
	{a: "0 3'", by: "*;2:3 1", origin: 1, want: "0 2'"},
	{a: "0 3'", by: "0:;:1", origin: 1, want: "0'"},
	{a: "0 3'", by: ":1;:1", origin: 1, wantE: api.ErrIndex},
	{a: "0 3'", by: "*;:4", origin: 1, wantE: api.ErrIndex},
	{a: "3 0:", by: "4:1 1 2 3;*", origin: 1, want: "4 0:"},
	{a: "3 0:", by: ":2;*", origin: 1, want: "0:"},
	{a: "3 0:", by: "*;:1", origin: 1, wantE: api.ErrIndex},

	// Numbers that aren't Whole.
	{a: "3'abc", by: ":1/2", origin: 1, wantE: api.ErrDomain},
	{a: "3'abc", by: "2:1 3/2", origin: 1, wantE: api.ErrDomain},
	{a: "3'abc", by: "'a", origin: 1, wantE: api.ErrDomain},
	{a: "3'abc", by: "1'a", origin: 1, wantE: api.ErrDomain},
	{a: "3'abc", by: "1 1'1", origin: 1, wantE: api.ErrDomain},
	{a: "3'abc", by: ":9223372036854775808", origin: 1, wantE: api.ErrDomain},
	{a: "3'abc", by: ":-9223372036854775809", origin: 1, wantE: api.ErrDomain},
	{a: "3'abc", by: ":18446744073709551617", origin: 1, wantE: api.ErrDomain},
	{a: "0'", by: ":1/2", origin: 1, wantE: api.ErrDomain},
	{a: "2 3'abcdef", by: "*;:1/2", origin: 1, wantE: api.ErrDomain},
	{a: "2 3'abcdef", by: "0:;'x", origin: 1, wantE: api.ErrDomain},

	// Numbers that are no positions.
	{a: "3'abc", by: ":0", origin: 1, wantE: api.ErrIndex},
	{a: "3'abc", by: ":1", origin: 1, want: "'a"},
	{a: "3'abc", by: ":3", origin: 1, want: "'c"},
	{a: "3'abc", by: ":4", origin: 1, wantE: api.ErrIndex},
	{a: "3'abc", by: ":-1", origin: 0, wantE: api.ErrIndex},
	{a: "3'abc", by: ":0", origin: 0, want: "'a"},
	{a: "3'abc", by: ":2", origin: 0, want: "'c"},
	{a: "3'abc", by: ":3", origin: 0, wantE: api.ErrIndex},
	{a: "3'abc", by: "4:1 2 3 4", origin: 1, wantE: api.ErrIndex},
	{a: "3'abc", by: "4:0 1 2 3", origin: 1, wantE: api.ErrIndex},
	{a: "3'abc", by: "1 1:-1", origin: 1, wantE: api.ErrIndex},
	{a: "3'abc", by: ":4294967297", origin: 1, wantE: api.ErrIndex},
	{a: "3'abc", by: ":9223372036854775807", origin: 0, wantE: api.ErrIndex},
	{a: "3'abc", by: ":9223372036854775807", origin: 1, wantE: api.ErrIndex},
	{a: "3'abc", by: ":-9223372036854775808", origin: 0, wantE: api.ErrIndex},
	{a: "3'abc", by: ":-9223372036854775808", origin: 1, wantE: api.ErrIndex},
	{a: "3'abc", by: ":-9223372036854775807", origin: 1, wantE: api.ErrIndex},
	{a: "2 3'abcdef", by: ":3;:1", origin: 1, wantE: api.ErrIndex},
	{a: "2 3'abcdef", by: ":2;:4", origin: 1, wantE: api.ErrIndex},
	{a: "2 3'abcdef", by: ":1;:0", origin: 1, wantE: api.ErrIndex},

	// Which error comes first: of the Subs, of one's kind, of one's numbers, of the
	// axes, of the elements.
	{a: "2 3'abcdef", by: ":9;:1/2", origin: 1, wantE: api.ErrDomain},
	{a: "2 3'abcdef", by: ":1/2;:9", origin: 1, wantE: api.ErrDomain},
	{a: "2 3'abcdef", by: "2:9 1/2;:1", origin: 1, wantE: api.ErrDomain},
	{a: "2 3'abcdef", by: "1 1 1 1 1 1 1 1:1;:1/2", origin: 1, wantE: api.ErrDomain},
	{a: "2 3'abcdef", by: "1 1 1 1 1 1 1 1:1;1:9", origin: 1, wantE: api.ErrIndex},
	{a: "2 3'abcdef", by: "1 1 1 1 1 1 1 1:1;1:1", origin: 1, wantE: api.ErrRank},
	{a: "2 3'abcdef", by: "1 1 1 1 1 1 1 1:1;*", origin: 1, wantE: api.ErrRank},
	{a: "2 3'abcdef", by: "1 1 1 1 1 1 1 1:1;:1", origin: 1, want: "1 1 1 1 1 1 1 1'a"},
	{a: "2 3'abcdef", by: "1 1 1 1 1 1 1:1;1:1", origin: 1, want: "1 1 1 1 1 1 1 1'a"},
	{a: "2 3'abcdef", by: "1 1 1 1 1 1 1:1;*", origin: 1, want: "1 1 1 1 1 1 1 3'abc"},
	{a: "2 3'abcdef", by: "0 1 1 1 1 1 1 1:;0:", origin: 1, wantE: api.ErrRank},
	{a: "2 3'abcdef", by: "0 1 1 1 1 1 1 1:;:9", origin: 1, wantE: api.ErrIndex},
	{a: "2 3'abcdef", by: "0 1 1 1 1 1 1:;0:", origin: 1, want: "0 1 1 1 1 1 1 0'"},
	{a: "2 3'abcdef", by: "0 4096:;*", origin: 1, wantE: api.ErrLimit},
	{a: "2 3'abcdef", by: "0 4096:;:1", origin: 1, want: "0 4096'"},
	{a: "2 3'abcdef", by: "0 4096:;1:1", origin: 1, want: "0 4096 1'"},
	{a: "2 3'abcdef", by: "0 4096:;:4", origin: 1, wantE: api.ErrIndex},
	{a: "2 3'abcdef", by: "0 4096:;'x", origin: 1, wantE: api.ErrDomain},
	{a: "2 3'abcdef", by: "0 1365:;*", origin: 1, want: "0 1365 3'"},
	{a: "2 3'abcdef", by: "0 4096:;4096 0'", origin: 1, wantE: api.ErrLimit},
	{a: "2 3'abcdef", by: "1 1 1 1 1 1 1 0:;0 4096:", origin: 1, wantE: api.ErrRank},
}

func TestIndex(t *testing.T) {
	for _, c := range indexings {
		got, e := Index(of(t, c.a), c.origin, subs(t, c.by)...)
		isOrFails(t, c.a+" by "+c.by, got, e, c.want, c.wantE)
	}
}

// TestPositions: each axis's first and last position, the numbers next to them, and
// those about the ends of the 64 bits, counted from 0 and from 1.
func TestPositions(t *testing.T) {
	far := []int{
		math.MinInt, math.MinInt + 1, math.MinInt + 4096, -1 << 62, -1 << 32, 1<<32 - 1, 1 << 32, 1<<32 + 1,
		1 << 62, math.MaxInt - 4096, math.MaxInt - 1, math.MaxInt,
	}
	for _, n := range []int{0, 1, 2, 3, 4095, 4096} {
		for _, origin := range []int{0, 1} {
			for _, k := range append([]int{-n, -2, -1, 0, 1, 2, n - 2, n - 1, n, n + 1, n + 2}, far...) {
				for _, a := range both(t, []int{n}, 0) {
					by := []Sub{{A: array.Int(k)}}
					want, wantE := indexOf(a, origin, by)
					if inside := k >= origin && k < n+origin; inside != (wantE == api.OK) {
						t.Fatal(k, n, origin)
					}
					b, e := Index(a, origin, by...)
					isOrFails(t, short(k, " of ", n, " from ", origin), b, e, want, wantE)
				}
			}
		}
	}
}

// TestOtherOrigins: the chapter speaks of 0 and 1 alone, but no other origin leads
// to an element that isn't there, or to a panic.
func TestOtherOrigins(t *testing.T) {
	ends := []int{math.MinInt, math.MinInt + 1, -2, -1, 0, 1, 2, math.MaxInt - 1, math.MaxInt}
	for _, origin := range ends {
		for _, k := range ends {
			for _, a := range both(t, []int{3}, 0) {
				by := []Sub{{A: array.Int(k)}}
				want, wantE := indexOf(a, origin, by)
				b, e := Index(a, origin, by...)
				isOrFails(t, short(k, " from ", origin), b, e, want, wantE)
				one, _ := a.Pick(nil, []int{0})
				want, wantE = setOf(a, one, origin, by)
				b, e = Set(a, one, origin, by...)
				isOrFails(t, short("set ", k, " from ", origin), b, e, want, wantE)
			}
		}
	}
}

// TestIndexOfAll: each array by many Subs, right and wrong ones, against another way
// of working it out.
func TestIndexOfAll(t *testing.T) {
	calls := map[api.Errno]int{}
	for _, s := range known {
		for _, a := range both(t, s, 0) {
			for _, origin := range []int{0, 1} {
				for turn := range 100 {
					by := someSubs(s, origin, turn)
					want, wantE := indexOf(a, origin, by)
					calls[wantE]++
					b, e := Index(a, origin, by...)
					isOrFails(t, short(s, " by ", tellSubs(by), " from ", origin), b, e, want, wantE)
				}
			}
		}
	}
	for _, e := range []api.Errno{api.OK, api.ErrRank, api.ErrDomain, api.ErrIndex, api.ErrLimit} {
		if calls[e] < 50 {
			t.Errorf("only %d calls with error %d", calls[e], e)
		}
	}
}

// TestAll: all Subs with All are the array itself, as are all positions in order.
func TestAll(t *testing.T) {
	for _, s := range known {
		for _, a := range both(t, s, 0) {
			for _, origin := range []int{0, 1} {
				b, e := Index(a, origin, allOf(s)...)
				is(t, short(s, " by All"), b, e, tell(a))
				b, e = Index(a, origin, orderOf(s, origin)...)
				is(t, short(s, " by all positions"), b, e, tell(a))
			}
		}
	}
}

// TestIndexToTheLimit: as many elements as there may be, and more, of 8 axes and
// fewer; also beyond 64 bits.
func TestIndexToTheLimit(t *testing.T) {
	for _, c := range []struct {
		s, lengths []int
		wantE      api.Errno
	}{
		{[]int{1}, []int{4096}, api.OK},
		{[]int{3, 2}, []int{64, 64}, api.OK},
		{[]int{3, 2}, []int{64, 65}, api.ErrLimit},
		{[]int{3, 2}, []int{65, 64}, api.ErrLimit},
		{[]int{3, 2}, []int{4096, 1}, api.OK},
		{[]int{3, 2}, []int{1, 4096}, api.OK},
		{[]int{3, 2}, []int{2, 4096}, api.ErrLimit},
		{[]int{3, 2}, []int{0, 4096}, api.OK},
		{[]int{3, 2, 1}, []int{0, 64, 65}, api.ErrLimit},
		{[]int{3, 2, 1}, []int{64, 65, 0}, api.ErrLimit},
		{[]int{3, 2, 1}, []int{64, 0, 64}, api.OK},
		{[]int{2, 2, 2, 2}, []int{8, 8, 8, 8}, api.OK},
		{[]int{2, 2, 2, 2}, []int{8, 8, 9, 8}, api.ErrLimit},
		{[]int{1, 2, 1, 2, 1, 2, 1, 2}, []int{2, 4, 2, 4, 2, 4, 2, 4}, api.OK},
		{[]int{1, 2, 1, 2, 1, 2, 1, 2}, []int{2, 4, 2, 4, 2, 4, 2, 5}, api.ErrLimit},
		// 2 to the power 64, so that a product of 64 bits is 0.
		{[]int{1, 1, 1, 1, 1, 1, 1, 1}, []int{256, 256, 256, 256, 256, 256, 256, 256}, api.ErrLimit},
		// 3 times 2 to the power 64, and one more in one place.
		{[]int{1, 1, 1, 1, 1, 1, 1, 1}, []int{4096, 4096, 4096, 4096, 4096, 16, 3, 1}, api.ErrLimit},
		{[]int{1, 1, 1, 1, 1, 1, 1, 1}, []int{4096, 4096, 4096, 4096, 4096, 4096, 4096, 4096}, api.ErrLimit},
		{[]int{1, 1, 1, 1, 1, 1, 1, 1}, []int{4096, 4096, 4096, 4096, 4096, 4096, 4096, 0}, api.ErrLimit},
	} {
		by := make([]Sub, len(c.s))
		for axis, n := range c.lengths {
			l := make([]int, n)
			for i := range l {
				l[i] = 1 + i%c.s[axis]
			}
			by[axis].A = array.Ints(l...)
		}
		for _, a := range both(t, c.s, 0) {
			want, wantE := indexOf(a, 1, by)
			if wantE != c.wantE {
				t.Fatal(c.s, c.lengths, wantE)
			}
			b, e := Index(a, 1, by...)
			isOrFails(t, short(c.s, " by ", c.lengths), b, e, want, wantE)
			v, e := Set(a, array.Int(5), 1, by...)
			if wantE == api.ErrLimit {
				fails(t, short(c.s, " set by ", c.lengths), v, e, wantE)
			}
		}
	}
}

// TestTooManyAxes: Subs of 0 to 8 axes each, whose axes together are 8 or more.
func TestTooManyAxes(t *testing.T) {
	one := func(axes int) Sub {
		a, _ := array.Int(1).Pick(slices.Repeat([]int{1}, axes), []int{0})
		return Sub{A: a}
	}
	for _, a := range both(t, []int{2, 2}, 0) {
		for m := range 9 {
			for n := range 9 {
				b, e := Index(a, 1, one(m), one(n))
				if m+n > 8 {
					fails(t, short(m, " and ", n, " axes"), b, e, api.ErrRank)
				} else if e != api.OK || b.Rank() != m+n || b.Len() != 1 {
					t.Errorf("%d and %d axes: %s and error %d", m, n, tell(b), e)
				}
			}
			b, e := Index(a, 1, Sub{All: true}, one(m))
			if m == 8 {
				fails(t, short("all and ", m, " axes"), b, e, api.ErrRank)
			} else if e != api.OK || b.Rank() != 1+m || b.Len() != 2 {
				t.Errorf("all and %d axes: %s and error %d", m, tell(b), e)
			}
		}
	}
	for _, a := range both(t, slices.Repeat([]int{1}, 8), 0) {
		b, e := Index(a, 1, slices.Repeat([]Sub{one(8)}, 8)...)
		fails(t, "64 axes", b, e, api.ErrRank)
		b, e = Index(a, 1, slices.Repeat([]Sub{one(0)}, 8)...)
		if e != api.OK || b.Rank() != 0 {
			t.Errorf("no axes: %s and error %d", tell(b), e)
		}
	}
}
