package cut

import (
	"math"
	"slices"
	"testing"

	"typeball/api"
	"typeball/array"
)

// cuts are calls of Take and Drop, with what each answers, or with its error.
var cuts = []struct {
	by, a, take, drop    string
	takeError, dropError api.Errno
}{
	// One axis.
	{by: ":2", a: "3:5 6 7", take: "2:5 6", drop: "1:7"},
	{by: "1:2", a: "3:5 6 7", take: "2:5 6", drop: "1:7"},
	{by: ":-2", a: "3:5 6 7", take: "2:6 7", drop: "1:5"},
	{by: "1:-2", a: "3'abc", take: "2'bc", drop: "1'a"},
	{by: ":0", a: "3:5 6 7", take: "0:", drop: "3:5 6 7"},
	{by: ":0", a: "3'abc", take: "0'", drop: "3'abc"},
	{by: ":3", a: "3:5 6 7", take: "3:5 6 7", drop: "0:"},
	{by: ":-3", a: "3'abc", take: "3'abc", drop: "0'"},
	{by: ":4", a: "3:5 6 7", take: "4:5 6 7 0", drop: "0:"},
	{by: ":-4", a: "3:5 6 7", take: "4:0 5 6 7", drop: "0:"},
	{by: ":4", a: "3'abc", take: "4'abc ", drop: "0'"},
	{by: ":-4", a: "3'abc", take: "4' abc", drop: "0'"},
	{by: ":-6", a: "2:1/2 -3", take: "6:0 0 0 0 1/2 -3", drop: "0:"},
	{by: ":1", a: "1:7", take: "1:7", drop: "0:"},
	{by: ":-1", a: "1:7", take: "1:7", drop: "0:"},

	// No elements.
	{by: ":0", a: "0:", take: "0:", drop: "0:"},
	{by: ":0", a: "0'", take: "0'", drop: "0'"},
	{by: ":2", a: "0:", take: "2:0 0", drop: "0:"},
	{by: ":-2", a: "0'", take: "2'  ", drop: "0'"},
	{by: "2:2 2", a: "0 3:", take: "2 2:0 0 0 0", drop: "0 1:"},
	{by: "2:-2 -4", a: "0 3'", take: "2 4'        ", drop: "0 0'"},
	{by: "2:2 -1", a: "3 0'", take: "2 1'  ", drop: "1 0'"},
	{by: "2:0 2", a: "3 0'", take: "0 2'", drop: "3 0'"},
	{by: "2:0 5", a: "2 3:1 2 3 4 5 6", take: "0 5:", drop: "2 0:"},

	// More axes.
	{by: "2:1 -2", a: "2 3:1 2 3 4 5 6", take: "1 2:2 3", drop: "1 1:4"},
	{by: "2:1 1", a: "2 3:1 2 3 4 5 6", take: "1 1:1", drop: "1 2:5 6"},
	{by: "2:-1 2", a: "2 3'abcdef", take: "1 2'de", drop: "1 1'c"},
	{by: "2:2 3", a: "2 3'abcdef", take: "2 3'abcdef", drop: "0 0'"},
	{by: "2:0 0", a: "2 3'abcdef", take: "0 0'", drop: "2 3'abcdef"},
	{by: "2:3 4", a: "2 3'abcdef", take: "3 4'abc def     ", drop: "0 0'"},
	{by: "2:-3 -4", a: "2 3'abcdef", take: "3 4'     abc def", drop: "0 0'"},
	{by: "2:3 -4", a: "2 3'abcdef", take: "3 4' abc def    ", drop: "0 0'"},
	{by: "2:-3 1", a: "2 3:1 2 3 4 5 6", take: "3 1:0 1 4", drop: "0 2:"},
	{by: "2:1 0", a: "2 3'abcdef", take: "1 0'", drop: "1 3'def"},
	{by: "3:1 -1 2", a: "2 2 3'abcdefghijkl", take: "1 1 2'de", drop: "1 1 1'i"},
	{by: "3:-1 0 0", a: "2 2 3'abcdefghijkl", take: "1 0 0'", drop: "1 2 3'abcdef"},
	{by: "3:3 1 -1", a: "2 2 3'abcdefghijkl", take: "3 1 1'ci ", drop: "0 1 2'"},
	{by: "8:1 1 1 2 1 1 1 1", a: "1 1 1 2 1 1 1 1'ab", take: "1 1 1 2 1 1 1 1'ab", drop: "0 0 0 0 0 0 0 0'"},
	{by: "8:0 0 0 1 0 0 0 0", a: "1 1 1 2 1 1 1 1'ab", take: "0 0 0 1 0 0 0 0'", drop: "1 1 1 1 1 1 1 1'b"},
	{by: "8:1 1 1 -3 1 1 1 -2", a: "1 1 1 2 1 1 1 1:5 6", take: "1 1 1 3 1 1 1 2:0 0 0 5 0 6", drop: "0 0 0 0 0 0 0 0:"},

	// Without axes: as many as there are numbers.
	{by: "0:", a: ":5", take: ":5", drop: ":5"},
	{by: "0'", a: "'x", take: "'x", drop: "'x"},
	{by: ":5", a: ":1", take: "5:1 0 0 0 0", drop: "0:"},
	{by: ":-3", a: "'x", take: "3'  x", drop: "0'"},
	{by: ":1", a: "'x", take: "1'x", drop: "0'"},
	{by: ":0", a: "'x", take: "0'", drop: "1'x"},
	{by: "1:0", a: ":-1/2", take: "0:", drop: "1:-1/2"},
	{by: "1:-1", a: ":5", take: "1:5", drop: "0:"},
	{by: "2:2 -2", a: ":5", take: "2 2:0 5 0 0", drop: "0 0:"},
	{by: "2:0 0", a: "'x", take: "0 0'", drop: "1 1'x"},
	{by: "3:1 0 2", a: "'x", take: "1 0 2'", drop: "0 1 0'"},
	{by: "8:1 1 2 1 1 1 1 1", a: "'x", take: "1 1 2 1 1 1 1 1'x ", drop: "0 0 0 0 0 0 0 0'"},
	{by: "8:0 0 0 0 0 0 0 0", a: ":7", take: "0 0 0 0 0 0 0 0:", drop: "1 1 1 1 1 1 1 1:7"},
	{by: "9:1 1 1 1 1 1 1 1 1", a: ":7", takeError: api.ErrRank, dropError: api.ErrRank},
	{by: "9:0 0 0 0 0 0 0 0 0", a: "'x", takeError: api.ErrRank, dropError: api.ErrRank},
	{by: "9:5000 1 1 1 1 1 1 1 1", a: "'x", takeError: api.ErrRank, dropError: api.ErrRank},
	{by: "9:9223372036854775807 -9223372036854775808 1 1 1 1 1 1 1", a: ":7", takeError: api.ErrRank, dropError: api.ErrRank},

	// Fewer or more numbers than axes.
	{by: "0:", a: "3:5 6 7", takeError: api.ErrLength, dropError: api.ErrLength},
	{by: "0'", a: "0:", takeError: api.ErrLength, dropError: api.ErrLength},
	{by: "2:1 1", a: "3:5 6 7", takeError: api.ErrLength, dropError: api.ErrLength},
	{by: "2:1 1", a: "0'", takeError: api.ErrLength, dropError: api.ErrLength},
	{by: ":1", a: "2 3'abcdef", takeError: api.ErrLength, dropError: api.ErrLength},
	{by: "1:1", a: "2 3'abcdef", takeError: api.ErrLength, dropError: api.ErrLength},
	{by: "0:", a: "2 3'abcdef", takeError: api.ErrLength, dropError: api.ErrLength},
	{by: "3:1 1 1", a: "2 3'abcdef", takeError: api.ErrLength, dropError: api.ErrLength},
	{by: "8:1 1 1 1 1 1 1 1", a: "2 3'abcdef", takeError: api.ErrLength, dropError: api.ErrLength},
	{by: "9:1 1 1 1 1 1 1 1 1", a: "3:5 6 7", takeError: api.ErrLength, dropError: api.ErrLength},
	{by: "9:1 1 1 1 1 1 1 1 1", a: "1 1 1 1 1 1 1 1:5", takeError: api.ErrLength, dropError: api.ErrLength},
	{by: "7:1 1 1 1 1 1 1", a: "1 1 1 1 1 1 1 1:5", takeError: api.ErrLength, dropError: api.ErrLength},
	{by: "2:9223372036854775807 1", a: "3:5 6 7", takeError: api.ErrLength, dropError: api.ErrLength},
	{by: ":5000", a: "2 3'abcdef", takeError: api.ErrLength, dropError: api.ErrLength},

	// Too many elements.
	{by: ":4097", a: "3:5 6 7", takeError: api.ErrLimit, drop: "0:"},
	{by: ":-4097", a: "3'abc", takeError: api.ErrLimit, drop: "0'"},
	{by: ":4097", a: "0'", takeError: api.ErrLimit, drop: "0'"},
	{by: ":-4097", a: ":5", takeError: api.ErrLimit, drop: "0:"},
	{by: "2:100 100", a: "2 3'abcdef", takeError: api.ErrLimit, drop: "0 0'"},
	{by: "2:64 65", a: "2 3'abcdef", takeError: api.ErrLimit, drop: "0 0'"},
	{by: "2:-65 -64", a: ":5", takeError: api.ErrLimit, drop: "0 0:"},
	{by: "2:0 4097", a: "2 3'abcdef", takeError: api.ErrLimit, drop: "2 0'"},
	{by: "2:-4097 0", a: "2 3'abcdef", takeError: api.ErrLimit, drop: "0 3'"},
	{by: "3:64 0 65", a: "1 1 1'x", takeError: api.ErrLimit, drop: "0 1 0'"},
	{by: "8:3 3 3 3 3 3 3 3", a: "'x", takeError: api.ErrLimit, drop: "0 0 0 0 0 0 0 0'"},
	{by: "8:2 2 2 2 2 2 2 33", a: "'x", takeError: api.ErrLimit, drop: "0 0 0 0 0 0 0 0'"},
	{by: ":4294967296", a: "3'abc", takeError: api.ErrLimit, drop: "0'"},
	{by: "2:4294967296 4294967296", a: "1 1'x", takeError: api.ErrLimit, drop: "0 0'"},
	{by: "3:4611686018427387904 4 3", a: "'x", takeError: api.ErrLimit, drop: "0 0 0'"},
	{by: "2:9223372036854775807 0", a: "2 3'abcdef", takeError: api.ErrLimit, drop: "0 3'"},
	{by: "2:0 -9223372036854775808", a: "2 3'abcdef", takeError: api.ErrLimit, drop: "2 0'"},
	{by: "2:9223372036854775807 9223372036854775807", a: "2 3'abcdef", takeError: api.ErrLimit, drop: "0 0'"},
	{by: "2:-9223372036854775808 -9223372036854775808", a: "2 3'abcdef", takeError: api.ErrLimit, drop: "0 0'"},
	{by: "2:-9223372036854775808 9223372036854775807", a: ":5", takeError: api.ErrLimit, drop: "0 0:"},
	{by: "2:-1 -9223372036854775807", a: "2 3'abcdef", takeError: api.ErrLimit, drop: "1 0'"},
}

func TestTakeDrop(t *testing.T) {
	for _, c := range cuts {
		by, a := of(t, c.by), of(t, c.a)
		b, e := Take(by, a)
		isOrFails(t, c.by+" takes of "+c.a, b, e, c.take, c.takeError)
		b, e = Drop(by, a)
		isOrFails(t, c.by+" drops of "+c.a, b, e, c.drop, c.dropError)
	}
}

// TestOneAtTheEnds: one axis, by the numbers about the ends of the 64 bits and about
// the greatest number of elements.
func TestOneAtTheEnds(t *testing.T) {
	far := []int{4097, 4098, 1 << 31, 1<<31 - 1, 1 << 32, 1<<32 + 1, 1 << 62, math.MaxInt - 4096, math.MaxInt - 1, math.MaxInt}
	for _, n := range []int{0, 1, 2, 3, 4095, 4096} {
		for _, a := range both(t, []int{n}) {
			none := tell(array.None(a.IsChar()))
			for _, k := range far {
				for _, many := range []int{k, -k, -k - 1} {
					b, e := Take(array.Int(many), a)
					fails(t, short(many, " takes of ", n), b, e, api.ErrLimit)
					b, e = Drop(array.Int(many), a)
					is(t, short(many, " drops of ", n), b, e, none)
				}
			}
		}
	}
}

// takeRow is the first n texts of a row, or the last -n.
func takeRow(row []string, n int, fill string) []string {
	if n < 0 {
		back := slices.Clone(row)
		slices.Reverse(back)
		back = takeRow(back, -n, fill)
		slices.Reverse(back)
		return back
	}
	var l []string
	for _, x := range row {
		if len(l) < n {
			l = append(l, x)
		}
	}
	for len(l) < n {
		l = append(l, fill)
	}
	return l
}

// dropRow is a row without its first n texts, or without its last -n.
func dropRow(row []string, n int) []string {
	for ; n > 0 && len(row) > 0; n-- {
		row = row[1:]
	}
	for ; n < 0 && len(row) > 0; n++ {
		row = row[:len(row)-1]
	}
	return row
}

// takeOf is what Take answers for an array with axes, worked out axis by axis.
func takeOf(a array.Array, by []int) (string, api.Errno) {
	s := slices.Clone(by)
	for axis, n := range s {
		s[axis] = max(n, -n)
	}
	if !isShape(s) {
		return "", api.ErrLimit
	}
	g := gridOf(a)
	// The axes that become shorter come first: what lies between is a shape, too.
	for _, longer := range []bool{false, true} {
		for axis, n := range by {
			if longer == (s[axis] > a.Shape()[axis]) {
				g = g.rows(axis, func(row []string) []string { return takeRow(row, n, g.fill()) })
			}
		}
	}
	return g.tell(), api.OK
}

// dropOf is what Drop answers for an array with axes, worked out axis by axis.
func dropOf(a array.Array, by []int) string {
	g := gridOf(a)
	for axis, n := range by {
		g = g.rows(axis, func(row []string) []string { return dropRow(row, n) })
	}
	return g.tell()
}

// bys are lists of numbers for the axes of a shape: about 0, and about their lengths.
func bys(s []int) [][]int {
	near := func(n int) []int {
		return []int{0, n, -n, n + 1, -n - 1, 1, -1, n - 1, 1 - n, n / 2, -n / 2, n + 3, -2*n - 1}
	}
	var all [][]int
	for turn := range len(near(0)) * 7 {
		l := make([]int, len(s))
		for axis, n := range s {
			k := near(n)
			l[axis] = k[(turn+turn/len(k)*(3*axis+1)+5*axis)%len(k)]
		}
		all = append(all, l)
	}
	return all
}

// TestTakeDropOfAll: each array by many lists, against another way of working it out.
func TestTakeDropOfAll(t *testing.T) {
	for _, s := range known[1:] {
		for i, by := range bys(s) {
			if size(s) > 300 && i%5 > 0 {
				continue
			}
			for _, a := range both(t, s) {
				want, wantE := takeOf(a, by)
				b, e := Take(array.Ints(by...), a)
				isOrFails(t, short(by, " takes of ", s), b, e, want, wantE)
				b, e = Drop(array.Ints(by...), a)
				is(t, short(by, " drops of ", s), b, e, dropOf(a, by))
			}
		}
	}
}

// TestTakeDropWithoutAxes: an array without axes as one of one element with as many
// axes as there are numbers.
func TestTakeDropWithoutAxes(t *testing.T) {
	for axes := 1; axes <= 8; axes++ {
		s := slices.Repeat([]int{1}, axes)
		for _, by := range bys(s) {
			for i, a := range both(t, nil) {
				long := both(t, s)[i]
				want, wantE := takeOf(long, by)
				b, e := Take(array.Ints(by...), a)
				isOrFails(t, short(by, " takes of one"), b, e, want, wantE)
				b, e = Drop(array.Ints(by...), a)
				is(t, short(by, " drops of one"), b, e, dropOf(long, by))
			}
		}
	}
	for many := 9; many <= 4096; many += 511 {
		for _, a := range both(t, nil) {
			b, e := Take(array.Ints(make([]int, many)...), a)
			fails(t, short(many, " numbers"), b, e, api.ErrRank)
			b, e = Drop(array.Ints(make([]int, many)...), a)
			fails(t, short(many, " numbers"), b, e, api.ErrRank)
		}
	}
}

// TestTakeToTheLimit: as many elements as there may be, of all numbers of axes.
func TestTakeToTheLimit(t *testing.T) {
	for _, by := range [][]int{{4096}, {-4096}, {64, -64}, {4096, 0}, {0, 1, -4096}, {8, 8, -8, 8, 1, 1, 1, -1}, {0, 0, 0, 0, 0, 0, 0, 4096}} {
		s := slices.Repeat([]int{2}, len(by))
		for _, a := range both(t, s) {
			want, wantE := takeOf(a, by)
			if wantE != api.OK {
				t.Fatal(by, wantE)
			}
			b, e := Take(array.Ints(by...), a)
			is(t, short(by, " takes of ", s), b, e, want)
		}
	}
}

// TestTakeAndDropAreAll: what Take and Drop select with the same number, one after the
// other, is the whole array (P9.3); of a negative number, what is dropped lies ahead.
func TestTakeAndDropAreAll(t *testing.T) {
	for _, s := range known[1:] {
		for axis, n := range s {
			for _, many := range []int{0, 1, 2, n / 2, n - 1, n} {
				if many < 0 || many > n {
					continue
				}
				for _, a := range both(t, s) {
					together(t, a, axis, many)
					together(t, a, axis, -many)
				}
			}
		}
	}
}

// together reports an error unless what is taken and what is dropped along an axis
// are, row by row, the whole array.
func together(t *testing.T, a array.Array, axis, many int) {
	t.Helper()
	s := a.Shape()
	takeBy, dropBy := slices.Clone(s), make([]int, len(s))
	takeBy[axis], dropBy[axis] = many, many
	b, e := Take(array.Ints(takeBy...), a)
	c, f := Drop(array.Ints(dropBy...), a)
	what := short(many, " along ", axis, " of ", s)
	if e != api.OK || f != api.OK {
		t.Fatal(what, e, f)
	}
	if many < 0 {
		b, c = c, b
	}
	if b.Len()+c.Len() != a.Len() || b.Shape()[axis]+c.Shape()[axis] != s[axis] {
		t.Errorf("%s: %v and %v", what, b.Shape(), c.Shape())
		return
	}
	all, first, second := gridOf(a), gridOf(b), gridOf(c)
	for before := range size(s[:axis]) {
		for after := range size(s[axis+1:]) {
			l := slices.Concat(first.row(axis, before, after), second.row(axis, before, after))
			if !slices.Equal(l, all.row(axis, before, after)) {
				t.Errorf("%s: %s", what, short(l))
				return
			}
		}
	}
}
