package cut

import (
	"fmt"
	"math"
	"math/big"
	"slices"
	"strings"
	"testing"

	"typeball/api"
	"typeball/array"
	"typeball/ratio"
	"typeball/whole"
)

// known are shapes, with and without elements, of all numbers of axes.
var known = [][]int{
	nil,
	{0},
	{1},
	{2},
	{5},
	{4096},
	{2, 3},
	{3, 2},
	{1, 1},
	{1, 4},
	{4, 1},
	{0, 1},
	{1, 0},
	{0, 3},
	{3, 0},
	{0, 0},
	{64, 64},
	{4096, 0},
	{1, 4096},
	{2, 3, 4},
	{4, 1, 3},
	{2, 0, 4},
	{0, 2, 4},
	{2, 4, 0},
	{2, 3, 4, 5},
	{3, 1, 2, 1, 3},
	{2, 2, 3, 2, 2, 1},
	{2, 1, 3, 1, 2, 2, 2},
	{2, 2, 2, 2, 2, 2, 2, 2},
	{1, 1, 1, 1, 1, 1, 1, 1},
	{1, 2, 3, 0, 4, 3, 2, 1},
	{8, 8, 8, 8, 1, 1, 1, 1},
}

// number reads a number: digits, perhaps a minus ahead, perhaps a line and more
// digits behind.
func number(text string) api.Num {
	rest, neg := strings.CutPrefix(text, "-")
	top, bot, ok := strings.Cut(rest, "/")
	if !ok {
		bot = "1"
	}
	return api.Num{Neg: neg, Top: top, Bot: bot}
}

// of reads an array as tell writes it.
func of(t *testing.T, text string) array.Array {
	t.Helper()
	at := strings.IndexAny(text, ":'")
	if at < 0 {
		t.Fatalf("no array: %q", text)
	}
	p := api.Plain{Char: text[at] == '\''}
	for _, word := range strings.Fields(text[:at]) {
		n := 0
		fmt.Sscan(word, &n)
		p.Shape = append(p.Shape, n)
	}
	if p.Char {
		p.Text = []rune(text[at+1:])
	} else {
		for _, word := range strings.Fields(text[at+1:]) {
			p.Nums = append(p.Nums, number(word))
		}
	}
	a, ok := array.Of(p)
	if !ok {
		t.Fatalf("no array: %q", text)
	}
	return a
}

// tell writes an array: its shape; a colon and its numbers, or a quote and its
// characters.
func tell(a array.Array) string { return gridOf(a).tell() }

// grid is an array whose elements are texts.
type grid struct {
	s    []int
	char bool
	l    []string
}

// gridOf is the grid of an array.
func gridOf(a array.Array) grid {
	p := a.Plain()
	g := grid{s: p.Shape, char: p.Char}
	for _, r := range p.Text {
		g.l = append(g.l, string(r))
	}
	for _, n := range p.Nums {
		text := n.Top
		if n.Neg {
			text = "-" + text
		}
		if n.Bot != "1" {
			text += "/" + n.Bot
		}
		g.l = append(g.l, text)
	}
	return g
}

// tell writes a grid as tell writes an array.
func (g grid) tell() string {
	words := make([]string, len(g.s))
	for axis, n := range g.s {
		words[axis] = fmt.Sprint(n)
	}
	head := strings.Join(words, " ")
	if g.char {
		return head + "'" + strings.Join(g.l, "")
	}
	return head + ":" + strings.Join(g.l, " ")
}

// fill is a grid's fill element.
func (g grid) fill() string {
	if g.char {
		return " "
	}
	return "0"
}

// size is how many elements a shape has.
func size(s []int) int {
	n := 1
	for _, k := range s {
		n *= k
	}
	return n
}

// isShape reports whether a list is a shape, by numbers of any size.
func isShape(s []int) bool {
	room := big.NewInt(1)
	for _, n := range s {
		if n < 0 {
			return false
		}
		room.Mul(room, big.NewInt(int64(max(n, 1))))
	}
	return len(s) <= 8 && room.Cmp(big.NewInt(4096)) <= 0
}

// row is the row of elements along an axis with that many of the others before and
// after it.
func (g grid) row(axis, before, after int) []string {
	n, step := g.s[axis], size(g.s[axis+1:])
	row := make([]string, n)
	for i := range row {
		row[i] = g.l[(before*n+i)*step+after]
	}
	return row
}

// rows is the grid with each row along an axis changed by f, which makes rows of the
// same length of all of them.
func (g grid) rows(axis int, f func(row []string) []string) grid {
	m := len(f(make([]string, g.s[axis])))
	h := grid{s: slices.Clone(g.s), char: g.char}
	h.s[axis] = m
	if !isShape(h.s) {
		return h
	}
	step := size(g.s[axis+1:])
	h.l = make([]string, size(h.s))
	for before := range size(g.s[:axis]) {
		for after := range step {
			for i, x := range f(g.row(axis, before, after)) {
				h.l[(before*m+i)*step+after] = x
			}
		}
	}
	return h
}

// half is n and a half, which is never the fill element.
func half(n int) ratio.Rat {
	x, _ := ratio.New(whole.From(2*n+1), whole.From(2))
	return x
}

// both are two arrays of a shape whose elements are all different, and none of them
// the fill element: one of numbers, one of characters.
func both(t *testing.T, s []int) []array.Array {
	t.Helper()
	nums, text := make([]ratio.Rat, size(s)), make([]rune, size(s))
	for at := range nums {
		nums[at], text[at] = half(at), 'A'+rune(at)
	}
	a, ok := array.Nums(s, nums...)
	b, also := array.Chars(s, text...)
	if !ok || !also {
		t.Fatalf("no shape: %v", s)
	}
	return []array.Array{a, b}
}

// short writes what was asked, cut where it is long.
func short(what ...any) string {
	text := fmt.Sprint(what...)
	if len(text) > 300 {
		return text[:300] + ".."
	}
	return text
}

// is reports an error unless there is an array, and it is as tell writes it.
func is(t *testing.T, what string, a array.Array, e api.Errno, want string) {
	t.Helper()
	if e != api.OK || tell(a) != want {
		t.Errorf("%s: got %s and error %d, not %s", what, short(tell(a)), e, short(want))
	}
}

// fails reports an error unless there is this error, and the zero value beside it.
func fails(t *testing.T, what string, a array.Array, e, want api.Errno) {
	t.Helper()
	if e != want || !array.Same(a, array.Array{}) {
		t.Errorf("%s: got %s and error %d, not error %d", what, short(tell(a)), e, want)
	}
}

// isOrFails is is, or fails where an error is wanted.
func isOrFails(t *testing.T, what string, a array.Array, e api.Errno, want string, wantE api.Errno) {
	t.Helper()
	if wantE != api.OK {
		fails(t, what, a, e, wantE)
		return
	}
	is(t, what, a, e, want)
}

// noLists are arrays that are no lists of integers, with their error.
var noLists = []struct {
	by   string
	want api.Errno
}{
	{"1 1:1", api.ErrRank},
	{"1 2:1 1", api.ErrRank},
	{"2 1:1 0", api.ErrRank},
	{"0 2:", api.ErrRank},
	{"2 0'", api.ErrRank},
	{"1 1'x", api.ErrRank},
	{"1 1:1/2", api.ErrRank},
	{"1 1 1 1 1 1 1 1:1", api.ErrRank},
	{":1/2", api.ErrDomain},
	{":-1/2", api.ErrDomain},
	{"1:1/3", api.ErrDomain},
	{"2:1 1/2", api.ErrDomain},
	{"9:1 1 1 1 1 1 1 1 1/2", api.ErrDomain},
	{":9223372036854775808", api.ErrDomain},
	{":-9223372036854775809", api.ErrDomain},
	{"2:1 340282366920938463463374607431768211456", api.ErrDomain},
	{"'1", api.ErrDomain},
	{"1'1", api.ErrDomain},
	{"2'10", api.ErrDomain},
	{"9'111111111", api.ErrDomain},
}

// change writes over all that an array hands out.
func change(a array.Array) {
	s, nums, text := a.Shape(), a.Rats(), a.Runes()
	ints, _ := a.Whole()
	p := a.Plain()
	for _, l := range [][]int{s, ints, p.Shape} {
		for i := range l {
			l[i] = 77
		}
	}
	for i := range nums {
		nums[i] = ratio.From(-77)
	}
	for i := range p.Nums {
		p.Nums[i].Top = "77"
	}
	for _, l := range [][]rune{text, p.Text} {
		for i := range l {
			l[i] = '#'
		}
	}
}

// answers are what the functions answer for an array of the shape 2 3 and lists of
// two numbers (1, -2), of three (1, 0, 1) and of one (1).
func answers(t *testing.T, a, two, three, one array.Array) []array.Array {
	t.Helper()
	var l []array.Array
	add := func(b array.Array, e api.Errno) {
		if e != api.OK {
			t.Fatal(e)
		}
		l = append(l, b)
	}
	add(Take(two, a))
	add(Drop(two, a))
	add(Take(array.Ints(2, 3), a))
	add(Drop(array.Ints(0, 0), a))
	add(Take(array.Ints(-3, 5), a))
	add(Take(three, array.Char('x')))
	add(Drop(one, array.Int(5)))
	add(Take(array.Ints(), array.Int(5)))
	add(Take(one, array.Ints(5, 6, 7)))
	add(Compress(three, a, -1))
	add(Compress(one, a, 0))
	add(Compress(three, array.Int(5), -1))
	add(Expand(array.Ints(1, 0, 1), a, 0))
	add(Expand(array.Ints(1, 1, 1), a, 1))
	add(Expand(three, array.Ints(8, 9), 0))
	add(Expand(one, array.Char('y'), 0))
	return l
}

// TestMemory: what was handed in or out, changed afterwards, changes nothing.
func TestMemory(t *testing.T) {
	s := []int{2, 3, 99}[:2]
	nums := []ratio.Rat{half(0), half(1), half(2), half(3), half(4), half(5), half(6)}[:6]
	text := []rune("ABCDEFG")[:6]
	lists := [][]ratio.Rat{
		{ratio.From(1), ratio.From(-2)},
		{ratio.From(1), ratio.From(0), ratio.From(1)},
		{ratio.From(1)},
	}
	var by []array.Array
	for _, l := range lists {
		b, _ := array.Nums([]int{len(l)}, l...)
		by = append(by, b)
	}
	a, _ := array.Nums(s, nums...)
	b, _ := array.Chars(s, text...)
	for _, x := range []array.Array{a, b} {
		l := answers(t, x, by[0], by[1], by[2])
		was := make([]string, len(l))
		for i, y := range l {
			was[i] = tell(y)
		}
		before := []string{tell(x), tell(by[0]), tell(by[1]), tell(by[2])}
		s[0], s[1], nums[0], text[0] = 9, 9, ratio.From(9), '9'
		lists[0][0], lists[1][0], lists[2][0] = ratio.From(7), ratio.From(7), ratio.From(7)
		for _, y := range slices.Concat(l, by, []array.Array{x}) {
			change(y)
		}
		for i, y := range l {
			if tell(y) != was[i] {
				t.Errorf("answer %d: %q became %q", i, was[i], tell(y))
			}
		}
		if after := []string{tell(x), tell(by[0]), tell(by[1]), tell(by[2])}; !slices.Equal(before, after) {
			t.Errorf("%q became %q", before, after)
		}
		for i, y := range answers(t, x, by[0], by[1], by[2]) {
			if tell(y) != was[i] {
				t.Errorf("answer %d: %q, then %q", i, was[i], tell(y))
			}
		}
	}
	if nums[:7][6].Cmp(half(6)) != 0 || text[:7][6] != 'G' || s[:3][2] != 99 {
		t.Error("changed behind the end")
	}
}

// TestArguments: no call changes what it was handed, not even one with an error.
func TestArguments(t *testing.T) {
	bys := []string{":1", ":0", "1:1", "2:0 1", "2:1 1", "2:3 -1", "3:1 0 1", "2'ab", "2:1/2 3", "0'", "2 3:1 0 1 0 1 1", ":9223372036854775807"}
	for _, text := range bys {
		by := of(t, text)
		for _, s := range known {
			for _, a := range both(t, s) {
				was := tell(a)
				Take(by, a)
				Drop(by, a)
				for _, axis := range []int{-1, 0, 1, 2, math.MaxInt} {
					Compress(by, a, axis)
					Expand(by, a, axis)
				}
				if tell(a) != was || tell(by) != text {
					t.Fatalf("%q and %q became %q and %q", text, short(was), tell(by), short(tell(a)))
				}
			}
		}
	}
}

// TestLists: what is no list of integers has its error ahead of all others, whatever
// it is to cut.
func TestLists(t *testing.T) {
	arrays := []string{":5", "'x", "0:", "0'", "1:5", "3:5 6 7", "2'ab", "2 3:1 2 3 4 5 6", "3 0'"}
	for _, c := range noLists {
		for _, text := range arrays {
			by, a := of(t, c.by), of(t, text)
			b, e := Take(by, a)
			fails(t, c.by+" takes of "+text, b, e, c.want)
			b, e = Drop(by, a)
			fails(t, c.by+" drops of "+text, b, e, c.want)
			for _, axis := range []int{-1, 0, 1, 7, math.MaxInt, math.MinInt} {
				b, e = Compress(by, a, axis)
				fails(t, short(c.by, " compresses ", text, " along ", axis), b, e, c.want)
				b, e = Expand(by, a, axis)
				fails(t, short(c.by, " expands ", text, " along ", axis), b, e, c.want)
			}
		}
	}
}
