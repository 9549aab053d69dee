package join

import (
	"fmt"
	"math"
	"math/big"
	"slices"
	"strings"
	"testing"

	"typeball/api"
	"typeball/array"
	"typeball/ratio"
	"typeball/whole"
)

// last is an axis below 0, and with it the last one for Catenate.
const last = -1

// known are shapes, with and without elements, of all numbers of axes. Many of them
// are others without an axis, or with another length along one.
var known = [][]int{
	nil,
	{0},
	{1},
	{2},
	{3},
	{5},
	{2, 3},
	{3, 2},
	{2, 1},
	{1, 3},
	{1, 1},
	{4, 3},
	{0, 3},
	{2, 0},
	{0, 0},
	{2, 3, 4},
	{2, 2, 3},
	{3, 4},
	{2, 4},
	{2, 1, 4},
	{2, 0, 4},
	{2, 3, 0},
	{0, 3, 4},
	{2, 3, 4, 2},
	{2, 3, 2},
	{3, 1, 2, 1, 3},
	{3, 1, 2, 3},
	{2, 2, 3, 2, 2, 1},
	{2, 1, 3, 1, 2, 2, 2},
	{2, 1, 1, 2, 2, 2},
	{2, 1, 3, 1, 5, 2, 2, 2},
	{2, 1, 3, 1, 2, 2, 2, 1},
	{1, 1, 1, 1, 1, 1, 1, 1},
	{1, 1, 1, 1, 1, 1, 1},
	{1, 2, 3, 0, 4, 3, 2, 1},
}

// number reads a number: digits, perhaps a minus ahead, perhaps a line and more
// digits behind.
func number(text string) api.Num {
	rest, neg := strings.CutPrefix(text, "-")
	top, bot, ok := strings.Cut(rest, "/")
	if !ok {
		bot = "1"
	}
	return api.Num{Neg: neg, Top: top, Bot: bot}
}

// of reads an array as tell writes it.
func of(t *testing.T, text string) array.Array {
	t.Helper()
	at := strings.IndexAny(text, ":'")
	if at < 0 {
		t.Fatalf("no array: %q", text)
	}
	p := api.Plain{Char: text[at] == '\''}
	for _, word := range strings.Fields(text[:at]) {
		n := 0
		fmt.Sscan(word, &n)
		p.Shape = append(p.Shape, n)
	}
	if p.Char {
		p.Text = []rune(text[at+1:])
	} else {
		for _, word := range strings.Fields(text[at+1:]) {
			p.Nums = append(p.Nums, number(word))
		}
	}
	a, ok := array.Of(p)
	if !ok {
		t.Fatalf("no array: %q", text)
	}
	return a
}

// tell writes an array: its shape; a colon and its numbers, or a quote and its
// characters.
func tell(a array.Array) string { return gridOf(a).tell() }

// grid is an array whose elements are texts.
type grid struct {
	s    []int
	char bool
	l    []string
}

// gridOf is the grid of an array.
func gridOf(a array.Array) grid {
	p := a.Plain()
	g := grid{s: p.Shape, char: p.Char}
	for _, r := range p.Text {
		g.l = append(g.l, string(r))
	}
	for _, n := range p.Nums {
		text := n.Top
		if n.Neg {
			text = "-" + text
		}
		if n.Bot != "1" {
			text += "/" + n.Bot
		}
		g.l = append(g.l, text)
	}
	return g
}

// tell writes a grid as tell writes an array.
func (g grid) tell() string {
	words := make([]string, len(g.s))
	for axis, n := range g.s {
		words[axis] = fmt.Sprint(n)
	}
	head := strings.Join(words, " ")
	if g.char {
		return head + "'" + strings.Join(g.l, "")
	}
	return head + ":" + strings.Join(g.l, " ")
}

// at is the element with an index; that of a grid without axes for each index.
func (g grid) at(idx []int) string {
	if len(g.s) == 0 {
		return g.l[0]
	}
	at := 0
	for axis, i := range idx {
		at = at*g.s[axis] + i
	}
	return g.l[at]
}

// gridBy is the grid of a shape with the elements that f tells for their indices; one
// without elements, and ErrLimit, if that is no shape.
func gridBy(s []int, char bool, f func(idx []int) string) (grid, api.Errno) {
	if !isShape(s) {
		return grid{}, api.ErrLimit
	}
	g := grid{s: s, char: char}
	for at := range size(s) {
		idx := make([]int, len(s))
		for axis := len(s) - 1; axis >= 0; axis-- {
			idx[axis] = at % s[axis]
			at /= s[axis]
		}
		g.l = append(g.l, f(idx))
	}
	return g, api.OK
}

// kindOf reports whether two arrays joined have characters, and whether they can be
// joined at all.
func kindOf(a, b array.Array) (bool, bool) {
	switch {
	case a.Len() > 0 && b.Len() > 0:
		return a.IsChar(), a.IsChar() == b.IsChar()
	case b.Len() > 0:
		return b.IsChar(), true
	}
	return a.IsChar(), true
}

// size is how many elements a shape has.
func size(s []int) int {
	n := 1
	for _, k := range s {
		n *= k
	}
	return n
}

// isShape reports whether a list is a shape, by numbers of any size.
func isShape(s []int) bool {
	room := big.NewInt(1)
	for _, n := range s {
		if n < 0 {
			return false
		}
		room.Mul(room, big.NewInt(int64(max(n, 1))))
	}
	return len(s) <= 8 && room.Cmp(big.NewInt(4096)) <= 0
}

// half is n and a half, which is never the fill element.
func half(n int) ratio.Rat {
	x, _ := ratio.New(whole.From(2*n+1), whole.From(2))
	return x
}

// both are two arrays of a shape whose elements are all different, counted from first
// on: one of numbers, one of characters.
func both(t *testing.T, s []int, first int) []array.Array {
	t.Helper()
	nums, text := make([]ratio.Rat, size(s)), make([]rune, size(s))
	for at := range nums {
		nums[at], text[at] = half(first+at), 'A'+rune(first+at)
	}
	a, ok := array.Nums(s, nums...)
	b, also := array.Chars(s, text...)
	if !ok || !also {
		t.Fatalf("no shape: %v", s)
	}
	return []array.Array{a, b}
}

// pairs hands f all pairs of arrays of two shapes: numbers and characters, in all
// four ways, and no element twice.
func pairs(t *testing.T, s, r []int, f func(a, b array.Array)) {
	t.Helper()
	for _, a := range both(t, s, 0) {
		for _, b := range both(t, r, 10000) {
			f(a, b)
		}
	}
}

// short writes what was asked, cut where it is long.
func short(what ...any) string {
	text := fmt.Sprint(what...)
	if len(text) > 300 {
		return text[:300] + ".."
	}
	return text
}

// is reports an error unless there is an array, and it is as tell writes it.
func is(t *testing.T, what string, a array.Array, e api.Errno, want string) {
	t.Helper()
	if e != api.OK || tell(a) != want {
		t.Errorf("%s: got %s and error %d, not %s", what, short(tell(a)), e, short(want))
	}
	if n, ok := array.Count(a.Shape()); !ok || n != a.Len() {
		t.Errorf("%s: %d elements of shape %v", what, a.Len(), a.Shape())
	}
}

// fails reports an error unless there is this error, and the zero value beside it.
func fails(t *testing.T, what string, a array.Array, e, want api.Errno) {
	t.Helper()
	if e != want || !array.Same(a, array.Array{}) {
		t.Errorf("%s: got %s and error %d, not error %d", what, short(tell(a)), e, want)
	}
}

// isOrFails is is, or fails where an error is wanted.
func isOrFails(t *testing.T, what string, a array.Array, e api.Errno, want string, wantE api.Errno) {
	t.Helper()
	if wantE != api.OK {
		fails(t, what, a, e, wantE)
		return
	}
	is(t, what, a, e, want)
}

// joining is a call of Catenate or Laminate, with what it answers, or with its error.
type joining struct {
	a, b  string
	axis  int
	want  string
	wantE api.Errno
}

// holds reports an error unless a function answers so.
func (c joining) holds(t *testing.T, f func(a, b array.Array, axis int) (array.Array, api.Errno)) {
	t.Helper()
	got, e := f(of(t, c.a), of(t, c.b), c.axis)
	isOrFails(t, short(c.a, " and ", c.b, " along ", c.axis), got, e, c.want, c.wantE)
}

// shaping is a call with arrays of two shapes, with the shape of what it answers, or
// with its error.
type shaping struct {
	s, r  []int
	axis  int
	want  []int
	wantE api.Errno
}

// holds reports an error unless a function answers so, for numbers and for characters.
func (c shaping) holds(t *testing.T, f func(a, b array.Array, axis int) (array.Array, api.Errno)) {
	t.Helper()
	b := both(t, c.r, 5000)
	for i, a := range both(t, c.s, 0) {
		got, e := f(a, b[i], c.axis)
		what := short(c.s, " and ", c.r, " along ", c.axis)
		if c.wantE != api.OK {
			fails(t, what, got, e, c.wantE)
			continue
		}
		if e != api.OK || !slices.Equal(got.Shape(), c.want) || got.IsChar() != a.IsChar() || got.Len() != size(c.want) {
			t.Errorf("%s: %d elements of %v and error %d, not %v", what, got.Len(), got.Shape(), e, c.want)
		}
	}
}

// functions are both functions, with their names.
var functions = []struct {
	name string
	call func(a, b array.Array, axis int) (array.Array, api.Errno)
}{
	{"catenate", Catenate},
	{"laminate", Laminate},
}

// TestDomain: numbers and characters, both with elements, can't be joined, which comes
// ahead of all other errors.
func TestDomain(t *testing.T) {
	for _, s := range known {
		for _, r := range known {
			if size(s) == 0 || size(r) == 0 {
				continue
			}
			pairs(t, s, r, func(a, b array.Array) {
				if a.IsChar() == b.IsChar() {
					return
				}
				for _, axis := range []int{-1, 0, 1, 2, 8, 9, math.MaxInt, math.MinInt} {
					for _, f := range functions {
						c, e := f.call(a, b, axis)
						fails(t, short(f.name, " ", s, " and ", r, " along ", axis), c, e, api.ErrDomain)
					}
				}
			})
		}
	}
}

// TestDomainAtTheLimit: also ahead of the error of a result that is too great.
func TestDomainAtTheLimit(t *testing.T) {
	for _, s := range [][]int{{4096}, {64, 64}, {8, 8, 8, 8, 1, 1, 1, 1}} {
		for _, r := range [][]int{nil, s, s[1:]} {
			pairs(t, s, r, func(a, b array.Array) {
				if a.IsChar() == b.IsChar() {
					return
				}
				for _, f := range functions {
					c, e := f.call(a, b, 0)
					fails(t, short(f.name, " ", s, " and ", r), c, e, api.ErrDomain)
					c, e = f.call(b, a, 0)
					fails(t, short(f.name, " ", r, " and ", s), c, e, api.ErrDomain)
				}
			})
		}
	}
}

// change writes over all that an array hands out.
func change(a array.Array) {
	s, nums, text := a.Shape(), a.Rats(), a.Runes()
	p := a.Plain()
	for _, l := range [][]int{s, p.Shape} {
		for i := range l {
			l[i] = 77
		}
	}
	for i := range nums {
		nums[i] = ratio.From(-77)
	}
	for i := range p.Nums {
		p.Nums[i].Top = "77"
	}
	for _, l := range [][]rune{text, p.Text} {
		for i := range l {
			l[i] = '#'
		}
	}
}

// answers are what the functions answer for an array of the shape 2 3, one of its
// columns, one of its rows, and one element.
func answers(t *testing.T, a, column, row, one array.Array) []array.Array {
	t.Helper()
	var l []array.Array
	add := func(b array.Array, e api.Errno) {
		if e != api.OK {
			t.Fatal(e)
		}
		l = append(l, b)
	}
	none, _ := a.Pick([]int{0, 3}, nil)
	add(Catenate(a, a, 0))
	add(Catenate(a, a, last))
	add(Catenate(a, column, 1))
	add(Catenate(row, a, 0))
	add(Catenate(one, a, 0))
	add(Catenate(row, one, 0))
	add(Catenate(one, one, last))
	add(Catenate(a, none, 0))
	add(Catenate(none, a, 0))
	add(Catenate(array.None(!a.IsChar()), row, 0))
	add(Catenate(row, array.Array{}, 0))
	add(Laminate(a, a, 0))
	add(Laminate(a, a, 2))
	add(Laminate(one, a, 1))
	add(Laminate(row, one, 0))
	add(Laminate(one, one, 0))
	add(Laminate(none, one, 0))
	return l
}

// told writes arrays.
func told(l []array.Array) []string {
	texts := make([]string, len(l))
	for i, a := range l {
		texts[i] = tell(a)
	}
	return texts
}

// TestMemory: what was handed in or out, changed afterwards, changes nothing.
func TestMemory(t *testing.T) {
	s := []int{2, 3, 99}[:2]
	nums := []ratio.Rat{half(0), half(1), half(2), half(3), half(4), half(5), half(6)}[:6]
	text := []rune("ABCDEFG")[:6]
	a, _ := array.Nums(s, nums...)
	b, _ := array.Chars(s, text...)
	for _, x := range []array.Array{a, b} {
		column, _ := x.Pick([]int{2}, []int{0, 3})
		row, _ := x.Pick([]int{3}, []int{3, 4, 5})
		one, _ := x.Pick(nil, []int{4})
		given := []array.Array{x, column, row, one}
		l := answers(t, x, column, row, one)
		was, before := told(l), told(given)
		s[0], s[1], nums[0], text[0] = 9, 9, ratio.From(9), '9'
		for _, y := range slices.Concat(l, given) {
			change(y)
		}
		if now := told(l); !slices.Equal(now, was) {
			t.Errorf("%q became %q", was, now)
		}
		if now := told(given); !slices.Equal(now, before) {
			t.Errorf("%q became %q", before, now)
		}
		if again := told(answers(t, x, column, row, one)); !slices.Equal(again, was) {
			t.Errorf("%q, then %q", was, again)
		}
	}
	if nums[:7][6].Cmp(half(6)) != 0 || text[:7][6] != 'G' || s[:3][2] != 99 {
		t.Error("changed behind the end")
	}
}

// TestArguments: no call changes what it was handed, not even one with an error.
func TestArguments(t *testing.T) {
	for _, s := range known {
		for _, r := range known {
			pairs(t, s, r, func(a, b array.Array) {
				was, also := tell(a), tell(b)
				for _, f := range functions {
					for _, axis := range []int{-1, 0, 1, 2, math.MaxInt} {
						f.call(a, b, axis)
						f.call(a, a, axis)
					}
				}
				if tell(a) != was || tell(b) != also {
					t.Fatalf("%s and %s became %s and %s", short(was), short(also), short(tell(a)), short(tell(b)))
				}
			})
		}
	}
}
