package cut

import (
	"math"
	"slices"
	"testing"

	"typeball/api"
	"typeball/array"
)

// last is an axis below 0, and with it the last one.
const last = -1

// flaggings are calls of Compress and Expand, with what each answers, or with its error.
var flaggings = []struct {
	by, a                      string
	axis                       int
	compress, expand           string
	compressError, expandError api.Errno
}{
	// One number.
	{by: ":1", a: "3:5 6 7", axis: 0, compress: "3:5 6 7", expandError: api.ErrLength},
	{by: ":0", a: "3:5 6 7", axis: 0, compress: "0:", expandError: api.ErrLength},
	{by: "1:1", a: "3'abc", axis: last, compress: "3'abc", expandError: api.ErrLength},
	{by: "1:0", a: "3'abc", axis: last, compress: "0'", expandError: api.ErrLength},
	{by: ":1", a: "1:5", axis: 0, compress: "1:5", expand: "1:5"},
	{by: ":0", a: "1:5", axis: 0, compress: "0:", expand: "1:0"},
	{by: "1:1", a: "1'x", axis: 0, compress: "1'x", expand: "1'x"},
	{by: "1:0", a: "1'x", axis: 0, compress: "0'", expand: "1' "},
	{by: ":1", a: "0:", axis: 0, compress: "0:", expandError: api.ErrLength},
	{by: ":0", a: "0:", axis: 0, compress: "0:", expand: "1:0"},
	{by: "1:1", a: "0'", axis: last, compress: "0'", expandError: api.ErrLength},
	{by: "1:0", a: "0'", axis: last, compress: "0'", expand: "1' "},
	{by: ":1", a: "2 3'abcdef", axis: 0, compress: "2 3'abcdef", expandError: api.ErrLength},
	{by: ":0", a: "2 3'abcdef", axis: 0, compress: "0 3'", expandError: api.ErrLength},
	{by: "1:0", a: "2 3'abcdef", axis: last, compress: "2 0'", expandError: api.ErrLength},
	{by: ":1", a: "3 0'", axis: 0, compress: "3 0'", expandError: api.ErrLength},
	{by: ":0", a: "3 0'", axis: 1, compress: "3 0'", expand: "3 1'   "},

	// As many numbers as there are positions.
	{by: "3:1 0 1", a: "3:5 6 7", axis: 0, compress: "2:5 7", expandError: api.ErrLength},
	{by: "3:1 1 1", a: "3:5 6 7", axis: last, compress: "3:5 6 7", expand: "3:5 6 7"},
	{by: "3:0 0 0", a: "3'abc", axis: 0, compress: "0'", expandError: api.ErrLength},
	{by: "3:0 1 0", a: "3'abc", axis: 0, compress: "1'b", expandError: api.ErrLength},
	{by: "2:0 1", a: "2 3:1 2 3 4 5 6", axis: 0, compress: "1 3:4 5 6", expandError: api.ErrLength},
	{by: "3:1 0 1", a: "2 3'abcdef", axis: 1, compress: "2 2'acdf", expandError: api.ErrLength},
	{by: "3:0 1 1", a: "2 3'abcdef", axis: last, compress: "2 2'bcef", expandError: api.ErrLength},
	{by: "2:1 0", a: "2 2 3'abcdefghijkl", axis: 0, compress: "1 2 3'abcdef", expandError: api.ErrLength},
	{by: "2:0 1", a: "2 2 3'abcdefghijkl", axis: 1, compress: "2 1 3'defjkl", expandError: api.ErrLength},
	{by: "3:1 0 0", a: "2 2 3'abcdefghijkl", axis: 2, compress: "2 2 1'adgj", expandError: api.ErrLength},
	{by: "0:", a: "0:", axis: 0, compress: "0:", expand: "0:"},
	{by: "0'", a: "0'", axis: last, compress: "0'", expand: "0'"},
	{by: "0:", a: "3 0'", axis: 1, compress: "3 0'", expand: "3 0'"},
	{by: "3:1 0 1", a: "3 0'", axis: 0, compress: "2 0'", expandError: api.ErrLength},

	// As many ones as there are positions.
	{by: "3:1 0 1", a: "2:5 7", axis: 0, compressError: api.ErrLength, expand: "3:5 0 7"},
	{by: "3:1 0 1", a: "2'ab", axis: last, compressError: api.ErrLength, expand: "3'a b"},
	{by: "6:0 0 1 1 0 0", a: "2:-1/2 7", axis: 0, compressError: api.ErrLength, expand: "6:0 0 -1/2 7 0 0"},
	{by: "2:1 1", a: "2'ab", axis: 0, compress: "2'ab", expand: "2'ab"},
	{by: "4:1 0 1 1", a: "2 3:1 2 3 4 5 6", axis: last, compressError: api.ErrLength, expand: "2 4:1 0 2 3 4 0 5 6"},
	{by: "4:0 1 0 1", a: "2 3'abcdef", axis: 0, compressError: api.ErrLength, expand: "4 3'   abc   def"},
	{by: "3:1 1 0", a: "2 2 3'abcdefghijkl", axis: 1, compressError: api.ErrLength, expand: "2 3 3'abcdef   ghijkl   "},
	{by: "3:0 1 1", a: "2 2 3'abcdefghijkl", axis: 0, compressError: api.ErrLength, expand: "3 2 3'      abcdefghijkl"},
	{by: "4:1 1 0 1", a: "2 2 3'abcdefghijkl", axis: 2, compressError: api.ErrLength, expand: "2 2 4'ab cde fgh ijk l"},
	{by: "2:0 0", a: "0:", axis: 0, compressError: api.ErrLength, expand: "2:0 0"},
	{by: "3:0 0 0", a: "0'", axis: 0, compressError: api.ErrLength, expand: "3'   "},
	{by: "2:0 0", a: "0 3:", axis: 0, compressError: api.ErrLength, expand: "2 3:0 0 0 0 0 0"},
	{by: "2:0 0", a: "3 0'", axis: 1, compressError: api.ErrLength, expand: "3 2'      "},
	{by: "4:1 0 1 1", a: "3 0'", axis: 0, compressError: api.ErrLength, expand: "4 0'"},

	// Fewer or more than that.
	{by: "0:", a: "3:5 6 7", axis: 0, compressError: api.ErrLength, expandError: api.ErrLength},
	{by: "0'", a: "2'ab", axis: 0, compressError: api.ErrLength, expandError: api.ErrLength},
	{by: "2:1 1", a: "3:5 6 7", axis: 0, compressError: api.ErrLength, expandError: api.ErrLength},
	{by: "4:1 1 1 1", a: "3:5 6 7", axis: 0, compressError: api.ErrLength, expandError: api.ErrLength},
	{by: "4:1 0 1 0", a: "3:5 6 7", axis: last, compressError: api.ErrLength, expandError: api.ErrLength},
	{by: "3:1 0 1", a: "2 3'abcdef", axis: 0, compressError: api.ErrLength, expand: "3 3'abc   def"},
	{by: "2:1 0", a: "2 3'abcdef", axis: 1, compressError: api.ErrLength, expandError: api.ErrLength},
	{by: "2:1 1", a: "0:", axis: 0, compressError: api.ErrLength, expandError: api.ErrLength},
	{by: "2:0 1", a: "0'", axis: 0, compressError: api.ErrLength, expandError: api.ErrLength},
	{by: "2:1 0", a: "0 3'", axis: 0, compressError: api.ErrLength, expandError: api.ErrLength},
	{by: "0:", a: "0 3'", axis: 1, compressError: api.ErrLength, expandError: api.ErrLength},

	// One element for all numbers.
	{by: "0:", a: "1:5", axis: 0, compress: "0:", expand: "0:"},
	{by: "0'", a: "1'x", axis: 0, compress: "0'", expand: "0'"},
	{by: "4:1 0 1 1", a: "1:5", axis: 0, compress: "3:5 5 5", expand: "4:5 0 5 5"},
	{by: "3:0 0 0", a: "1'x", axis: last, compress: "0'", expand: "3'   "},
	{by: "3:0 1 0", a: "1'x", axis: 0, compress: "1'x", expand: "3' x "},
	{by: "2:1 1", a: "1 3'abc", axis: 0, compress: "2 3'abcabc", expand: "2 3'abcabc"},
	{by: "3:1 0 1", a: "2 1'ab", axis: 1, compress: "2 2'aabb", expand: "2 3'a ab b"},
	{by: "3:1 0 1", a: "2 1 2'abcd", axis: 1, compress: "2 2 2'ababcdcd", expand: "2 3 2'ab  abcd  cd"},
	{by: "3:1 0 1", a: "0 1:", axis: 1, compress: "0 2:", expand: "0 3:"},
	{by: "0:", a: "2 1'ab", axis: last, compress: "2 0'", expand: "2 0'"},

	// Without axes.
	{by: ":1", a: ":5", axis: 0, compress: "1:5", expand: "1:5"},
	{by: ":0", a: ":5", axis: 0, compress: "0:", expand: "1:0"},
	{by: "1:1", a: "'x", axis: last, compress: "1'x", expand: "1'x"},
	{by: ":0", a: "'x", axis: -5, compress: "0'", expand: "1' "},
	{by: "3:1 0 1", a: "'x", axis: math.MinInt, compress: "2'xx", expand: "3'x x"},
	{by: "2:0 0", a: ":-7/3", axis: 0, compress: "0:", expand: "2:0 0"},
	{by: "0:", a: "'x", axis: 0, compress: "0'", expand: "0'"},
	{by: ":1", a: ":5", axis: 1, compressError: api.ErrRank, expandError: api.ErrRank},
	{by: "2:1 1", a: "'x", axis: 1, compressError: api.ErrRank, expandError: api.ErrRank},
	{by: "0:", a: "'x", axis: math.MaxInt, compressError: api.ErrRank, expandError: api.ErrRank},

	// Along an axis that there isn't, whatever the number of flags.
	{by: "3:1 1 1", a: "3:5 6 7", axis: 1, compressError: api.ErrRank, expandError: api.ErrRank},
	{by: "2:1 1", a: "3:5 6 7", axis: 1, compressError: api.ErrRank, expandError: api.ErrRank},
	{by: ":1", a: "0'", axis: 1, compressError: api.ErrRank, expandError: api.ErrRank},
	{by: "3:1 1 1", a: "2 3'abcdef", axis: 2, compressError: api.ErrRank, expandError: api.ErrRank},
	{by: "0:", a: "2 3'abcdef", axis: math.MaxInt, compressError: api.ErrRank, expandError: api.ErrRank},
	{by: ":1", a: "1 1 1 1 1 1 1 1:5", axis: 8, compressError: api.ErrRank, expandError: api.ErrRank},
	{by: ":1", a: "1 1 1 1 1 1 1 1:5", axis: 7, compress: "1 1 1 1 1 1 1 1:5", expand: "1 1 1 1 1 1 1 1:5"},

	// Neither 0 nor 1, also where there is no such axis, or another number of flags.
	{by: ":2", a: "3:5 6 7", axis: 0, compressError: api.ErrDomain, expandError: api.ErrDomain},
	{by: ":-1", a: "3:5 6 7", axis: 0, compressError: api.ErrDomain, expandError: api.ErrDomain},
	{by: "1:2", a: ":5", axis: 0, compressError: api.ErrDomain, expandError: api.ErrDomain},
	{by: "3:1 0 2", a: "3:5 6 7", axis: 0, compressError: api.ErrDomain, expandError: api.ErrDomain},
	{by: "3:-1 0 1", a: "3'abc", axis: last, compressError: api.ErrDomain, expandError: api.ErrDomain},
	{by: "3:3 0 0", a: "3'abc", axis: last, compressError: api.ErrDomain, expandError: api.ErrDomain},
	{by: "2:2 0", a: "2'ab", axis: 0, compressError: api.ErrDomain, expandError: api.ErrDomain},
	{by: "3:-1 1 2", a: "2'ab", axis: 0, compressError: api.ErrDomain, expandError: api.ErrDomain},
	{by: ":9223372036854775807", a: "2'ab", axis: 0, compressError: api.ErrDomain, expandError: api.ErrDomain},
	{by: "2:1 -9223372036854775808", a: "2'ab", axis: 0, compressError: api.ErrDomain, expandError: api.ErrDomain},
	{by: ":2", a: "3:5 6 7", axis: 1, compressError: api.ErrDomain, expandError: api.ErrDomain},
	{by: "2:1 2", a: "3:5 6 7", axis: 0, compressError: api.ErrDomain, expandError: api.ErrDomain},
	{by: "2:1 2", a: ":5", axis: 1, compressError: api.ErrDomain, expandError: api.ErrDomain},
	{by: ":3", a: "0'", axis: 0, compressError: api.ErrDomain, expandError: api.ErrDomain},
}

func TestCompressExpand(t *testing.T) {
	for _, c := range flaggings {
		by, a := of(t, c.by), of(t, c.a)
		b, e := Compress(by, a, c.axis)
		isOrFails(t, short(c.by, " compresses ", c.a, " along ", c.axis), b, e, c.compress, c.compressError)
		b, e = Expand(by, a, c.axis)
		isOrFails(t, short(c.by, " expands ", c.a, " along ", c.axis), b, e, c.expand, c.expandError)
	}
}

// atLimit is a call along an axis by zeros and, behind them, ones.
type atLimit struct {
	s           []int
	axis        int
	zeros, ones int
	want        api.Errno
}

// holds reports an error unless the call has its error, or the axis gets this length.
func (c atLimit) holds(t *testing.T, length int, f func(by, a array.Array, axis int) (array.Array, api.Errno)) {
	t.Helper()
	by := array.Ints(slices.Concat(make([]int, c.zeros), slices.Repeat([]int{1}, c.ones))...)
	for _, a := range both(t, c.s) {
		b, e := f(by, a, c.axis)
		what := short(c.zeros, " zeros and ", c.ones, " ones for ", c.s, " along ", c.axis)
		if c.want != api.OK {
			fails(t, what, b, e, c.want)
			continue
		}
		s := a.Shape()
		if len(s) == 0 {
			s = []int{1}
		}
		s[(c.axis+len(s))%len(s)] = length
		if e != api.OK || !slices.Equal(b.Shape(), s) || b.IsChar() != a.IsChar() {
			t.Errorf("%s: %v and error %d, not %v", what, b.Shape(), e, s)
		}
	}
}

// TestCompressToTheLimit: a result that is just a shape, and one that is none; a
// wrong number of flags comes first.
func TestCompressToTheLimit(t *testing.T) {
	for _, c := range []atLimit{
		{[]int{1}, 0, 0, 4096, api.OK},
		{nil, last, 0, 4096, api.OK},
		{[]int{64, 1}, 1, 0, 64, api.OK},
		{[]int{64, 1}, 1, 1000, 64, api.OK},
		{[]int{64, 1}, 1, 0, 65, api.ErrLimit},
		{[]int{64, 1}, 1, 1000, 65, api.ErrLimit},
		{[]int{64, 1}, 1, 4031, 65, api.ErrLimit},
		{[]int{64, 1, 1}, last, 0, 65, api.ErrLimit},
		{[]int{1, 4096}, 0, 0, 2, api.ErrLimit},
		{[]int{1, 4096}, 0, 5, 1, api.OK},
		{[]int{1, 4096}, 0, 5, 0, api.OK},
		{[]int{1, 4096}, 1, 0, 2, api.ErrLength},
		{[]int{4096, 1, 0}, 1, 1, 2, api.ErrLimit},
		{[]int{4096, 1, 0}, 1, 2, 1, api.OK},
		{[]int{4096, 1, 0}, 1, 2, 0, api.OK},
		{[]int{0, 1}, 1, 0, 4096, api.OK},
		{[]int{8, 8, 8, 1, 1, 1, 1, 1}, 5, 3, 8, api.OK},
		{[]int{8, 8, 8, 1, 1, 1, 1, 1}, 5, 3, 9, api.ErrLimit},
		{[]int{4096}, 0, 4095, 1, api.OK},
		{[]int{4096}, 0, 0, 4096, api.OK},
		{[]int{4096}, 0, 0, 4095, api.ErrLength},
		{[]int{4095}, 0, 0, 4096, api.ErrLength},
	} {
		c.holds(t, c.ones, Compress)
	}
}

// TestExpandToTheLimit: a result that is just a shape, and one that is none; a wrong
// number of ones comes first.
func TestExpandToTheLimit(t *testing.T) {
	for _, c := range []atLimit{
		{[]int{1}, 0, 0, 4096, api.OK},
		{[]int{1}, 0, 4096, 0, api.OK},
		{nil, last, 4095, 1, api.OK},
		{[]int{0}, 0, 4096, 0, api.OK},
		{[]int{4095}, 0, 1, 4095, api.OK},
		{[]int{64, 1}, 1, 0, 64, api.OK},
		{[]int{64, 1}, 1, 63, 1, api.OK},
		{[]int{64, 1}, 1, 64, 1, api.ErrLimit},
		{[]int{64, 1}, 1, 65, 0, api.ErrLimit},
		{[]int{64, 1}, last, 0, 65, api.ErrLimit},
		{[]int{64, 64}, 0, 0, 64, api.OK},
		{[]int{64, 64}, 0, 1, 64, api.ErrLimit},
		{[]int{64, 64}, 0, 1, 63, api.ErrLength},
		{[]int{64, 64}, 1, 1, 65, api.ErrLength},
		{[]int{0, 4096}, 0, 1, 0, api.OK},
		{[]int{0, 4096}, 0, 2, 0, api.ErrLimit},
		{[]int{0, 4096}, 0, 2, 1, api.ErrLength},
		{[]int{4096, 0}, last, 2, 0, api.ErrLimit},
		{[]int{4096, 1, 0}, 1, 1, 1, api.ErrLimit},
		{[]int{8, 8, 8, 1, 1, 1, 1, 0}, 7, 8, 0, api.OK},
		{[]int{8, 8, 8, 1, 1, 1, 1, 0}, 7, 9, 0, api.ErrLimit},
	} {
		c.holds(t, c.zeros+c.ones, Expand)
	}
}

// keepRow is what of a row there is a 1 for: one flag is for all texts, one text for
// all flags.
func keepRow(row []string, by []int) []string {
	var l []string
	for i := range max(len(row), len(by)) {
		text, flag := min(i, len(row)-1), min(i, len(by)-1)
		if text >= 0 && flag >= 0 && by[flag] == 1 {
			l = append(l, row[text])
		}
	}
	return l
}

// spreadRow is a row with the fill element put in for each 0; one text is for all ones.
func spreadRow(row []string, by []int, fill string) []string {
	var l []string
	rest := slices.Clone(row)
	for _, flag := range by {
		if flag == 0 {
			l = append(l, fill)
			continue
		}
		l = append(l, rest[0])
		if len(row) > 1 {
			rest = rest[1:]
		}
	}
	return l
}

// patterns are lists of 0 and 1 of a length: all of them where it is small.
func patterns(n int) [][]int {
	all := 1 << min(n, 5)
	var lists [][]int
	for bits := range all {
		l := make([]int, n)
		for i := range l {
			// Behind the first five, the same bits in other steps.
			l[i] = bits >> (i * (1 + i/5) % 5) & 1
		}
		lists = append(lists, l)
	}
	return lists
}

// compressOf is what Compress answers along an axis that there is, worked out row by row.
func compressOf(a array.Array, axis int, by []int) (string, api.Errno) {
	g := gridOf(a)
	if n := g.s[axis]; len(by) != 1 && n != 1 && len(by) != n {
		return "", api.ErrLength
	}
	g = g.rows(axis, func(row []string) []string { return keepRow(row, by) })
	if !isShape(g.s) {
		return "", api.ErrLimit
	}
	return g.tell(), api.OK
}

// expandOf is what Expand answers along an axis that there is, worked out row by row.
func expandOf(a array.Array, axis int, by []int) (string, api.Errno) {
	g := gridOf(a)
	count := 0
	for _, flag := range by {
		count += flag
	}
	if n := g.s[axis]; n != 1 && count != n {
		return "", api.ErrLength
	}
	g = g.rows(axis, func(row []string) []string { return spreadRow(row, by, g.fill()) })
	if !isShape(g.s) {
		return "", api.ErrLimit
	}
	return g.tell(), api.OK
}

// TestCompressExpandOfAll: each array along each axis, by many lists, against another
// way of working it out.
func TestCompressExpandOfAll(t *testing.T) {
	for _, s := range known[1:] {
		for axis, n := range s {
			var lists [][]int
			for _, many := range []int{0, 1, 2, 3, n - 1, n, n + 1, n + 3} {
				if many >= 0 && many <= 100 {
					lists = append(lists, patterns(many)...)
				}
			}
			for i, by := range lists {
				if size(s) > 300 && i%9 > 0 {
					continue
				}
				for _, a := range both(t, s) {
					want, wantE := compressOf(a, axis, by)
					b, e := Compress(array.Ints(by...), a, axis)
					isOrFails(t, short(by, " compresses ", s, " along ", axis), b, e, want, wantE)
					want, wantE = expandOf(a, axis, by)
					b, e = Expand(array.Ints(by...), a, axis)
					isOrFails(t, short(by, " expands ", s, " along ", axis), b, e, want, wantE)
				}
			}
		}
	}
}

// TestAxes: an axis below 0 is the last one; one beyond the last there isn't.
func TestAxes(t *testing.T) {
	functions := []func(by, a array.Array, axis int) (array.Array, api.Errno){Compress, Expand}
	for _, s := range known[1:] {
		end := len(s) - 1
		by := slices.Repeat([]int{1}, s[end])
		if s[end] > 1 && size(s) < 4096 {
			by = append(by[1:], 0, 1)
		}
		for _, a := range both(t, s) {
			for _, f := range functions {
				want, wantE := f(array.Ints(by...), a, end)
				for _, axis := range []int{-1, -2, -9, math.MinInt} {
					b, e := f(array.Ints(by...), a, axis)
					if e != wantE || !array.Same(b, want) {
						t.Errorf("%v along %d: %s and error %d", s, axis, short(tell(b)), e)
					}
				}
				for _, axis := range []int{end + 1, end + 2, 8, 9, math.MaxInt} {
					b, e := f(array.Ints(by...), a, axis)
					fails(t, short(s, " along ", axis), b, e, api.ErrRank)
				}
			}
		}
	}
}

// TestCompressUndoesExpand: by the same list, it is the array again (P9.3).
func TestCompressUndoesExpand(t *testing.T) {
	for _, s := range known[1:] {
		for axis, n := range s {
			for gaps := range 6 {
				by := slices.Repeat([]int{1}, n)
				for gap := range gaps {
					by = slices.Insert(by, (7*gap+3*axis)%(len(by)+1), 0)
				}
				longer := slices.Clone(s)
				longer[axis] = len(by)
				if !isShape(longer) {
					continue
				}
				for _, a := range both(t, s) {
					b, e := Expand(array.Ints(by...), a, axis)
					if e != api.OK {
						t.Fatal(s, axis, by, e)
					}
					c, e := Compress(array.Ints(by...), b, axis)
					is(t, short(by, " undone of ", s, " along ", axis), c, e, tell(a))
				}
			}
		}
	}
}
