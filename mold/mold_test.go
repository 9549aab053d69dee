package mold

import (
	"fmt"
	"math"
	"slices"
	"strings"
	"testing"

	"typeball/api"
	"typeball/array"
	"typeball/ratio"
	"typeball/whole"
)

// known are shapes, with and without elements, of all numbers of axes.
var known = [][]int{
	nil,
	{0},
	{1},
	{5},
	{4096},
	{2, 3},
	{3, 2},
	{1, 1},
	{1, 4},
	{4, 1},
	{0, 3},
	{3, 0},
	{0, 0},
	{64, 64},
	{4096, 0},
	{2, 3, 4},
	{4, 1, 3},
	{2, 0, 4},
	{0, 2, 4},
	{2, 4, 0},
	{3, 3, 3},
	{2, 3, 4, 5},
	{3, 1, 2, 1, 3},
	{2, 2, 3, 2, 2, 1},
	{2, 1, 3, 1, 2, 2, 2},
	{2, 2, 2, 2, 2, 2, 2, 2},
	{2, 1, 3, 1, 2, 1, 3, 1},
	{1, 1, 1, 1, 1, 1, 1, 1},
	{1, 2, 3, 0, 4, 3, 2, 1},
	{8, 8, 8, 8, 1, 1, 1, 1},
}

// size is how many elements a shape has.
func size(s []int) int {
	n := 1
	for _, k := range s {
		n *= k
	}
	return n
}

// half is n and a half.
func half(n int) ratio.Rat {
	x, _ := ratio.New(whole.From(2*n+1), whole.From(2))
	return x
}

// numbers is an array whose element at each position is that position and a half.
func numbers(t *testing.T, s ...int) array.Array {
	t.Helper()
	l := make([]ratio.Rat, size(s))
	for at := range l {
		l[at] = half(at)
	}
	a, ok := array.Nums(s, l...)
	if !ok {
		t.Fatalf("no shape: %v", s)
	}
	return a
}

// letters is an array whose element at each position is the character beyond A by
// that position.
func letters(t *testing.T, s ...int) array.Array {
	t.Helper()
	l := make([]rune, size(s))
	for at := range l {
		l[at] = 'A' + rune(at)
	}
	a, ok := array.Chars(s, l...)
	if !ok {
		t.Fatalf("no shape: %v", s)
	}
	return a
}

// both are the two arrays of a shape: one of numbers, one of characters.
func both(t *testing.T, s []int) []array.Array {
	t.Helper()
	return []array.Array{numbers(t, s...), letters(t, s...)}
}

// chars is an array of the characters of a text.
func chars(t *testing.T, s []int, text string) array.Array {
	t.Helper()
	a, ok := array.Chars(s, []rune(text)...)
	if !ok {
		t.Fatalf("no array of %v: %q", s, text)
	}
	return a
}

// ints is an array of integers.
func ints(t *testing.T, s []int, l ...int) array.Array {
	t.Helper()
	nums := make([]ratio.Rat, len(l))
	for i, n := range l {
		nums[i] = ratio.From(n)
	}
	a, ok := array.Nums(s, nums...)
	if !ok {
		t.Fatalf("no array of %v: %v", s, l)
	}
	return a
}

// tell writes an array: kind, shape, elements.
func tell(a array.Array) string {
	p := a.Plain()
	if p.Char {
		return fmt.Sprint("chars ", append([]int{}, p.Shape...), " ", string(p.Text))
	}
	words := make([]string, len(p.Nums))
	for i, n := range p.Nums {
		if n.Neg {
			words[i] = "-"
		}
		words[i] += n.Top
		if n.Bot != "1" {
			words[i] += "/" + n.Bot
		}
	}
	return fmt.Sprint("nums ", append([]int{}, p.Shape...), " ", strings.Join(words, " "))
}

// is reports an error unless there is an array, and it is as tell writes it.
func is(t *testing.T, what string, a array.Array, e api.Errno, want string) {
	t.Helper()
	if e != api.OK || tell(a) != want {
		t.Errorf("%s: got %q and error %d, not %q", what, tell(a), e, want)
	}
}

// same reports an error unless there is an array, and it is the one that is wanted.
func same(t *testing.T, what string, a array.Array, e api.Errno, want array.Array) {
	t.Helper()
	if e != api.OK || !array.Same(a, want) {
		t.Errorf("%s: got %q and error %d, not %q", what, tell(a), e, tell(want))
	}
}

// fails reports an error unless there is this error, and the zero value beside it.
func fails(t *testing.T, what string, a array.Array, e, want api.Errno) {
	t.Helper()
	if e != want || !array.Same(a, array.Array{}) {
		t.Errorf("%s: got %q and error %d, not error %d", what, tell(a), e, want)
	}
}

// indices are all indices of a shape, in order.
func indices(s []int) [][]int {
	all := [][]int{nil}
	for _, n := range s {
		var longer [][]int
		for _, idx := range all {
			for i := range n {
				longer = append(longer, append(slices.Clone(idx), i))
			}
		}
		all = longer
	}
	return all
}

// place is the position of an index.
func place(s, idx []int) int {
	at := 0
	for axis, i := range idx {
		at = at*s[axis] + i
	}
	return at
}

// built is the array of the shape s whose element at each index is the one that a has
// at the index from: numbers and letters tell by their element where it comes from.
func built(t *testing.T, a array.Array, s []int, from func(idx []int) []int) array.Array {
	t.Helper()
	var nums []ratio.Rat
	var text []rune
	for _, idx := range indices(s) {
		at := place(a.Shape(), from(slices.Clone(idx)))
		if a.IsChar() {
			text = append(text, a.Rune(at))
		} else {
			nums = append(nums, a.Rat(at))
		}
	}
	b, ok := array.Nums(s, nums...)
	if a.IsChar() {
		b, ok = array.Chars(s, text...)
	}
	if !ok {
		t.Fatalf("no array of %v", s)
	}
	return b
}

func TestShape(t *testing.T) {
	for _, c := range []struct {
		a    array.Array
		want string
	}{
		{array.Int(7), "nums [0] "},
		{array.Char('x'), "nums [0] "},
		{array.Array{}, "nums [1] 0"},
		{array.None(true), "nums [1] 0"},
		{array.Ints(5, 6, 7), "nums [1] 3"},
		{array.Text([]rune("ab")), "nums [1] 2"},
		{numbers(t, 2, 3), "nums [2] 2 3"},
		{letters(t, 3, 2), "nums [2] 3 2"},
		{numbers(t, 3, 0), "nums [2] 3 0"},
		{letters(t, 0, 3, 0), "nums [3] 0 3 0"},
		{numbers(t, 4096), "nums [1] 4096"},
		{numbers(t, 2, 1, 3, 1, 2, 1, 3, 4), "nums [8] 2 1 3 1 2 1 3 4"},
		{letters(t, 1, 2, 3, 0, 4, 3, 2, 1), "nums [8] 1 2 3 0 4 3 2 1"},
	} {
		is(t, tell(c.a), Shape(c.a), api.OK, c.want)
	}
	for _, s := range known {
		for _, a := range both(t, s) {
			same(t, fmt.Sprint(s), Shape(a), api.OK, array.Ints(s...))
		}
	}
}

func TestReshape(t *testing.T) {
	list, text := array.Ints(1, -2, 3), array.Text([]rune("abc"))
	for _, c := range []struct {
		by, a array.Array
		want  string
	}{
		{array.Ints(2, 3), array.Ints(1, 2), "nums [2 3] 1 2 1 2 1 2"},
		{array.Ints(2, 2), list, "nums [2 2] 1 -2 3 1"},
		{array.Ints(2, 2), text, "chars [2 2] abca"},
		{array.Ints(7), text, "chars [7] abcabca"},
		{array.Ints(3), list, "nums [3] 1 -2 3"},
		{array.Ints(2), list, "nums [2] 1 -2"},
		{array.Ints(1), text, "chars [1] a"},
		{array.Int(4), list, "nums [4] 1 -2 3 1"},
		{array.Int(0), list, "nums [0] "},
		{array.Int(0), text, "chars [0] "},
		{array.Ints(), list, "nums [] 1"},
		{array.Ints(), text, "chars [] a"},
		{array.None(true), text, "chars [] a"},
		{array.Ints(0), text, "chars [0] "},
		{array.Ints(0, 3), list, "nums [0 3] "},
		{array.Ints(3, 0), text, "chars [3 0] "},
		{array.Ints(4096, 0), list, "nums [4096 0] "},
		{array.Ints(2, 3), array.Int(9), "nums [2 3] 9 9 9 9 9 9"},
		{array.Ints(2), array.Char('x'), "chars [2] xx"},
		{array.Ints(2, 2), array.None(false), "nums [2 2] 0 0 0 0"},
		{array.Ints(2, 2), array.None(true), "chars [2 2]     "},
		{array.Ints(), array.None(false), "nums [] 0"},
		{array.Ints(), array.None(true), "chars []  "},
		{array.Int(2), letters(t, 3, 0), "chars [2]   "},
		{array.Int(2), numbers(t, 0, 3), "nums [2] 0 0"},
		{array.Ints(0, 2), array.None(true), "chars [0 2] "},
		{array.Ints(0, 2), array.None(false), "nums [0 2] "},
		{array.Ints(4), numbers(t, 3, 2), "nums [4] 1/2 3/2 5/2 7/2"},
		{array.Ints(3, 1, 3), letters(t, 2, 2), "chars [3 1 3] ABCDABCDA"},
		{array.Ints(1, 1, 1, 2, 1, 1, 1, 2), text, "chars [1 1 1 2 1 1 1 2] abca"},
		{array.Ints(1, 1, 1, 0, 1, 1, 1, 4096), text, "chars [1 1 1 0 1 1 1 4096] "},
	} {
		a, e := Reshape(c.by, c.a)
		is(t, tell(c.by)+" reshapes "+tell(c.a), a, e, c.want)
	}
}

func TestReshapeToTheLimit(t *testing.T) {
	for _, s := range [][]int{{4096}, {64, 64}, {1, 4096}, {8, 8, 8, 8, 1, 1, 1, 1}} {
		a, e := Reshape(array.Ints(s...), array.Ints(5, 6, 7))
		l, _ := a.Whole()
		if e != api.OK || !slices.Equal(a.Shape(), s) || len(l) != 4096 {
			t.Fatalf("%v: shape %v, %d elements, error %d", s, a.Shape(), len(l), e)
		}
		for at, n := range l {
			if n != 5+at%3 {
				t.Fatalf("%v: %d at %d", s, n, at)
			}
		}
	}
}

func TestReshapeWrong(t *testing.T) {
	huge, _ := ratio.From(2).Pow(64, api.MaxLimbs)
	for _, c := range []struct {
		by   array.Array
		want api.Errno
	}{
		{ints(t, []int{1, 1}, 2), api.ErrRank},
		{ints(t, []int{1, 2}, 2, 3), api.ErrRank},
		{ints(t, []int{1, 1}, -2), api.ErrRank},
		{ints(t, []int{0, 2}), api.ErrRank},
		{chars(t, []int{1, 1}, "x"), api.ErrRank},
		{numbers(t, 2, 1), api.ErrRank},
		{ints(t, []int{1, 1, 1, 1, 1, 1, 1, 1}, 2), api.ErrRank},
		{array.Num(half(0)), api.ErrDomain},
		{array.Num(huge), api.ErrDomain},
		{array.Num(huge.Minus()), api.ErrDomain},
		{numbers(t, 2), api.ErrDomain},
		{numbers(t, 9), api.ErrDomain},
		{array.Char('2'), api.ErrDomain},
		{array.Text([]rune("23")), api.ErrDomain},
		{array.Text([]rune("123456789")), api.ErrDomain},
		{array.Int(-1), api.ErrDomain},
		{array.Ints(-1), api.ErrDomain},
		{array.Ints(2, -1), api.ErrDomain},
		{array.Ints(0, -1), api.ErrDomain},
		{array.Ints(-1, -1), api.ErrDomain},
		{array.Ints(-2, 3), api.ErrDomain},
		{array.Ints(math.MinInt), api.ErrDomain},
		{array.Ints(math.MaxInt, -1), api.ErrDomain},
		{array.Ints(1, 1, 1, 1, 1, 1, 1, 1, -1), api.ErrDomain},
		{array.Ints(4097, -1, 1, 1, 1, 1, 1, 1, 1, 1), api.ErrDomain},
		{array.Ints(1, 1, 1, 1, 1, 1, 1, 1, 1), api.ErrRank},
		{array.Ints(0, 0, 0, 0, 0, 0, 0, 0, 0), api.ErrRank},
		{array.Ints(4097, 1, 1, 1, 1, 1, 1, 1, 1), api.ErrRank},
		{array.Ints(make([]int, 4096)...), api.ErrRank},
		{array.Int(4097), api.ErrLimit},
		{array.Ints(4097), api.ErrLimit},
		{array.Ints(64, 65), api.ErrLimit},
		{array.Ints(100, 100), api.ErrLimit},
		{array.Ints(0, 4097), api.ErrLimit},
		{array.Ints(4097, 0), api.ErrLimit},
		{array.Ints(64, 0, 65), api.ErrLimit},
		{array.Ints(2, 2, 2, 2, 2, 2, 2, 33), api.ErrLimit},
		{array.Ints(4097, 1, 1, 1, 1, 1, 1, 1), api.ErrLimit},
		{array.Ints(1<<32, 1<<32), api.ErrLimit},
		{array.Ints(1<<32, 1<<32, 5), api.ErrLimit},
		{array.Ints(1<<62, 4, 3), api.ErrLimit},
		{array.Ints(math.MaxInt), api.ErrLimit},
		{array.Ints(math.MaxInt, math.MaxInt), api.ErrLimit},
		{array.Ints(math.MaxInt, 0), api.ErrLimit},
	} {
		for _, a := range []array.Array{array.Ints(1, 2), array.Char('x'), array.None(true), {}, numbers(t, 2, 3)} {
			b, e := Reshape(c.by, a)
			fails(t, tell(c.by)+" reshapes "+tell(a), b, e, c.want)
		}
	}
}

// TestReshapeOfAll: each array by each shape.
func TestReshapeOfAll(t *testing.T) {
	for _, from := range known {
		for _, s := range known {
			for _, a := range both(t, from) {
				b, e := Reshape(array.Ints(s...), a)
				if e != api.OK || !slices.Equal(b.Shape(), s) || b.IsChar() != a.IsChar() {
					t.Fatalf("%v reshapes %v: %v, error %d", s, from, b.Shape(), e)
				}
				for at := range b.Len() {
					want, letter := ratio.From(0), ' '
					if a.Len() > 0 {
						want, letter = half(at%a.Len()), 'A'+rune(at%a.Len())
					}
					if a.IsChar() && b.Rune(at) != letter || !a.IsChar() && b.Rat(at).Cmp(want) != 0 {
						t.Fatalf("%v reshapes %v: element %d of %q", s, from, at, tell(b))
					}
				}
			}
		}
	}
}

// TestReshapeBack: Reshape of the Ravel of an array by its Shape is the array (P8.6).
func TestReshapeBack(t *testing.T) {
	for _, s := range known {
		for _, a := range both(t, s) {
			b, e := Reshape(Shape(a), a.Ravel())
			same(t, fmt.Sprint(s), b, e, a)
		}
	}
}

// change writes over all that an array hands out.
func change(a array.Array) {
	s := a.Shape()
	for i := range s {
		s[i] = 77
	}
	nums := a.Rats()
	for i := range nums {
		nums[i] = ratio.From(-77)
	}
	text := a.Runes()
	for i := range text {
		text[i] = '#'
	}
	whole, _ := a.Whole()
	for i := range whole {
		whole[i] = 77
	}
	p := a.Plain()
	for i := range p.Shape {
		p.Shape[i] = 77
	}
	for i := range p.Nums {
		p.Nums[i].Top = "77"
	}
	for i := range p.Text {
		p.Text[i] = '#'
	}
}

// answers are what the functions answer for an array of two axes.
func answers(t *testing.T, a array.Array) []array.Array {
	t.Helper()
	l := []array.Array{Shape(a), Transpose(a)}
	add := func(b array.Array, e api.Errno) {
		if e != api.OK {
			t.Fatal(e)
		}
		l = append(l, b)
	}
	add(Reshape(array.Ints(2, 2), a))
	add(Reshape(Shape(a), a))
	add(Reverse(a, 0))
	add(Reverse(array.Int(5), -1))
	add(Rotate(array.Int(0), a, 1))
	add(Rotate(array.Ints(1, 2), a, 1))
	add(Rotate(array.Int(1), array.Char('x'), -1))
	add(TransposeBy(array.Ints(0, 1), a, 0))
	add(TransposeBy(array.Ints(1, 1), a, 1))
	return l
}

// TestMemory: what was handed in or out, changed afterwards, changes nothing.
func TestMemory(t *testing.T) {
	s := []int{2, 3, 99}[:2]
	nums := []ratio.Rat{half(0), half(1), half(2), half(3), half(4), half(5), half(6)}[:6]
	text := []rune("ABCDEFG")[:6]
	a, _ := array.Nums(s, nums...)
	b, _ := array.Chars(s, text...)
	for _, x := range []array.Array{a, b} {
		l := answers(t, x)
		was := make([]string, len(l))
		for i, y := range l {
			was[i] = tell(y)
		}
		before := tell(x)
		s[0], s[1], nums[0], text[0] = 9, 9, ratio.From(9), '9'
		change(x)
		for _, y := range l {
			change(y)
		}
		for i, y := range l {
			if tell(y) != was[i] {
				t.Errorf("answer %d: %q became %q", i, was[i], tell(y))
			}
		}
		if tell(x) != before {
			t.Errorf("%q became %q", before, tell(x))
		}
		for i, y := range answers(t, x) {
			if tell(y) != was[i] {
				t.Errorf("answer %d: %q, then %q", i, was[i], tell(y))
			}
		}
	}
	if nums[:7][6].Cmp(half(6)) != 0 || text[:7][6] != 'G' || s[:3][2] != 99 {
		t.Error("changed behind the end")
	}
}

// TestArguments: no call changes what it was handed, not even one with an error.
func TestArguments(t *testing.T) {
	bys := []array.Array{array.Int(1), array.Ints(0, 1), array.Ints(1, 1), array.Ints(3, -1), array.Text([]rune("ab")), numbers(t, 2), array.None(true), numbers(t, 2, 3)}
	for _, by := range bys {
		for _, s := range known[:16] {
			for _, a := range both(t, s) {
				was, wasBy := tell(a), tell(by)
				for axis := -1; axis <= 2; axis++ {
					Reverse(a, axis)
					Rotate(by, a, axis)
				}
				Shape(a)
				Reshape(by, a)
				Transpose(a)
				TransposeBy(by, a, 0)
				TransposeBy(by, a, 1)
				if tell(a) != was || tell(by) != wasBy {
					t.Fatalf("%q and %q became %q and %q", wasBy, was, tell(by), tell(a))
				}
			}
		}
	}
}
