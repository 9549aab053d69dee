package index

import (
	"fmt"
	"math"
	"math/big"
	"slices"
	"strings"
	"testing"

	"typeball/api"
	"typeball/array"
	"typeball/ratio"
	"typeball/whole"
)

// known are shapes, with and without elements, of all numbers of axes.
var known = [][]int{
	nil,
	{0},
	{1},
	{2},
	{5},
	{300},
	{2, 3},
	{3, 2},
	{1, 1},
	{4, 1},
	{0, 3},
	{3, 0},
	{0, 0},
	{20, 20},
	{1, 4096},
	{2, 3, 4},
	{4, 1, 3},
	{2, 0, 4},
	{0, 2, 4},
	{2, 4, 0},
	{2, 3, 4, 5},
	{3, 1, 2, 1, 3},
	{2, 2, 3, 2, 2, 1},
	{2, 1, 3, 1, 2, 2, 2},
	{2, 2, 2, 2, 2, 2, 2, 2},
	{1, 1, 1, 1, 1, 1, 1, 1},
	{1, 2, 3, 0, 4, 3, 2, 1},
}

// number reads a number: digits, perhaps a minus ahead, perhaps a line and more
// digits behind.
func number(text string) api.Num {
	rest, neg := strings.CutPrefix(text, "-")
	top, bot, ok := strings.Cut(rest, "/")
	if !ok {
		bot = "1"
	}
	return api.Num{Neg: neg, Top: top, Bot: bot}
}

// of reads an array as tell writes it.
func of(t *testing.T, text string) array.Array {
	t.Helper()
	at := strings.IndexAny(text, ":'")
	if at < 0 {
		t.Fatalf("no array: %q", text)
	}
	p := api.Plain{Char: text[at] == '\''}
	for _, word := range strings.Fields(text[:at]) {
		n := 0
		fmt.Sscan(word, &n)
		p.Shape = append(p.Shape, n)
	}
	if p.Char {
		p.Text = []rune(text[at+1:])
	} else {
		for _, word := range strings.Fields(text[at+1:]) {
			p.Nums = append(p.Nums, number(word))
		}
	}
	a, ok := array.Of(p)
	if !ok {
		t.Fatalf("no array: %q", text)
	}
	return a
}

// subs reads Subs: arrays with signs ; between them, each with a star ahead, or a star
// alone, if the Sub has All.
func subs(t *testing.T, text string) []Sub {
	t.Helper()
	if text == "" {
		return nil
	}
	var l []Sub
	for word := range strings.SplitSeq(text, ";") {
		rest, all := strings.CutPrefix(word, "*")
		sub := Sub{All: all}
		if rest != "" {
			sub.A = of(t, rest)
		}
		l = append(l, sub)
	}
	return l
}

// elements are the elements of an array as texts.
func elements(a array.Array) []string {
	p := a.Plain()
	var l []string
	for _, r := range p.Text {
		l = append(l, string(r))
	}
	for _, n := range p.Nums {
		text := n.Top
		if n.Neg {
			text = "-" + text
		}
		if n.Bot != "1" {
			text += "/" + n.Bot
		}
		l = append(l, text)
	}
	return l
}

// told writes an array: its shape; a colon and its numbers, or a quote and its
// characters.
func told(s []int, char bool, l []string) string {
	words := make([]string, len(s))
	for axis, n := range s {
		words[axis] = fmt.Sprint(n)
	}
	head := strings.Join(words, " ")
	if char {
		return head + "'" + strings.Join(l, "")
	}
	return head + ":" + strings.Join(l, " ")
}

// tell writes an array as told does.
func tell(a array.Array) string { return told(a.Shape(), a.IsChar(), elements(a)) }

// tellSubs writes Subs as subs reads them.
func tellSubs(by []Sub) string {
	words := make([]string, len(by))
	for i, sub := range by {
		words[i] = tell(sub.A)
		if sub.All {
			words[i] = "*" + words[i]
		}
	}
	return strings.Join(words, ";")
}

// short writes what was asked, cut where it is long.
func short(what ...any) string {
	text := fmt.Sprint(what...)
	if len(text) > 300 {
		return text[:300] + ".."
	}
	return text
}

// is reports an error unless there is an array, and it is as tell writes it.
func is(t *testing.T, what string, a array.Array, e api.Errno, want string) {
	t.Helper()
	if e != api.OK || tell(a) != want {
		t.Errorf("%s: got %s and error %d, not %s", what, short(tell(a)), e, short(want))
	}
	if n, ok := array.Count(a.Shape()); !ok || n != a.Len() {
		t.Errorf("%s: %d elements of shape %v", what, a.Len(), a.Shape())
	}
}

// fails reports an error unless there is this error, and the zero value beside it.
func fails(t *testing.T, what string, a array.Array, e, want api.Errno) {
	t.Helper()
	if e != want || !array.Same(a, array.Array{}) {
		t.Errorf("%s: got %s and error %d, not error %d", what, short(tell(a)), e, want)
	}
}

// isOrFails is is, or fails where an error is wanted.
func isOrFails(t *testing.T, what string, a array.Array, e api.Errno, want string, wantE api.Errno) {
	t.Helper()
	if wantE != api.OK {
		fails(t, what, a, e, wantE)
		return
	}
	is(t, what, a, e, want)
}

// size is how many elements a shape has.
func size(s []int) int {
	n := 1
	for _, k := range s {
		n *= k
	}
	return n
}

// isShape reports whether a list is a shape, by numbers of any size.
func isShape(s []int) bool {
	room := big.NewInt(1)
	for _, n := range s {
		if n < 0 {
			return false
		}
		room.Mul(room, big.NewInt(int64(max(n, 1))))
	}
	return len(s) <= 8 && room.Cmp(big.NewInt(4096)) <= 0
}

// half is n and a half.
func half(n int) ratio.Rat {
	x, _ := ratio.New(whole.From(2*n+1), whole.From(2))
	return x
}

// both are two arrays of a shape whose elements are all different, counted from first
// on: one of numbers, one of characters.
func both(t *testing.T, s []int, first int) []array.Array {
	t.Helper()
	nums, text := make([]ratio.Rat, size(s)), make([]rune, size(s))
	for at := range nums {
		nums[at], text[at] = half(first+at), 'A'+rune(first+at)
	}
	a, ok := array.Nums(s, nums...)
	b, also := array.Chars(s, text...)
	if !ok || !also {
		t.Fatalf("no shape: %v", s)
	}
	return []array.Array{a, b}
}

// bigs are the numbers of an array, and true; false if one is no integer of 64 bits.
func bigs(a array.Array) ([]*big.Int, bool) {
	p := a.Plain()
	if len(p.Text) > 0 {
		return nil, false
	}
	var l []*big.Int
	for _, n := range p.Nums {
		x, ok := new(big.Int).SetString(n.Top, 10)
		if n.Neg {
			x.Neg(x)
		}
		if !ok || n.Bot != "1" || !x.IsInt64() {
			return nil, false
		}
		l = append(l, x)
	}
	return l, true
}

// chosenOf is what Subs select of an array, worked out Sub by Sub with numbers of any
// size: the shape, and the places of the elements.
func chosenOf(a array.Array, origin int, by []Sub) ([]int, []int, api.Errno) {
	s := a.Shape()
	if len(by) != len(s) {
		return nil, nil, api.ErrRank
	}
	var shapes []int
	domain, outside := false, false
	along := make([][]int, len(s))
	for axis, sub := range by {
		if sub.All {
			shapes = append(shapes, s[axis])
			for i := range s[axis] {
				along[axis] = append(along[axis], i)
			}
			continue
		}
		shapes = append(shapes, sub.A.Shape()...)
		l, ok := bigs(sub.A)
		domain = domain || !ok
		for _, x := range l {
			x.Sub(x, big.NewInt(int64(origin)))
			if x.Sign() < 0 || x.Cmp(big.NewInt(int64(s[axis]))) >= 0 {
				outside = true
				continue
			}
			along[axis] = append(along[axis], int(x.Int64()))
		}
	}
	switch {
	case domain:
		return nil, nil, api.ErrDomain
	case outside:
		return nil, nil, api.ErrIndex
	case len(shapes) > 8:
		return nil, nil, api.ErrRank
	case !isShape(shapes):
		return nil, nil, api.ErrLimit
	}
	return shapes, placesOf(s, along), api.OK
}

// placesOf are the places of all combinations of one position along each axis: for
// each along the first one, all of the others'.
func placesOf(s []int, along [][]int) []int {
	if len(s) == 0 {
		return []int{0}
	}
	rest := placesOf(s[1:], along[1:])
	var l []int
	for _, i := range along[0] {
		for _, k := range rest {
			l = append(l, i*size(s[1:])+k)
		}
	}
	return l
}

// indexOf is what Index answers, worked out element by element.
func indexOf(a array.Array, origin int, by []Sub) (string, api.Errno) {
	s, places, e := chosenOf(a, origin, by)
	if e != api.OK {
		return "", e
	}
	all := elements(a)
	l := make([]string, len(places))
	for i, at := range places {
		l[i] = all[at]
	}
	return told(s, a.IsChar(), l), api.OK
}

// setOf is what Set answers, worked out element by element.
func setOf(a, v array.Array, origin int, by []Sub) (string, api.Errno) {
	s, places, e := chosenOf(a, origin, by)
	r := v.Shape()
	switch {
	case e != api.OK:
		return "", e
	case len(r) > 0 && len(r) != len(s):
		return "", api.ErrRank
	case len(r) > 0 && !slices.Equal(r, s):
		return "", api.ErrLength
	case len(places) > 0 && a.IsChar() != v.IsChar():
		return "", api.ErrDomain
	}
	l, with := elements(a), elements(v)
	for i, at := range places {
		if len(r) == 0 {
			i = 0
		}
		l[at] = with[i]
	}
	return told(a.Shape(), a.IsChar(), l), api.OK
}

// allOf are Subs with All for a shape.
func allOf(s []int) []Sub { return slices.Repeat([]Sub{{All: true}}, len(s)) }

// orderOf are Subs with all positions in order for a shape.
func orderOf(s []int, origin int) []Sub {
	var by []Sub
	for _, n := range s {
		l := make([]int, n)
		for i := range l {
			l[i] = i + origin
		}
		by = append(by, Sub{A: array.Ints(l...)})
	}
	return by
}

// stepped are many numbers that are positions along an axis of length n, each so far
// behind the one before it, in a circle.
func stepped(many, first, step, n, origin int) []ratio.Rat {
	l := make([]ratio.Rat, many)
	for i := range l {
		l[i] = ratio.From((first+i*step)%n + origin)
	}
	return l
}

// goodSub is a Sub for an axis of length n, one of many.
func goodSub(n, origin, turn int) Sub {
	none := [][]int{{0}, {0, 2}, {3, 0}, {2, 0, 2}}
	if n == 0 || turn%8 == 7 {
		if turn%3 == 0 {
			return Sub{All: true}
		}
		a, _ := array.None(turn%2 == 0).Pick(none[turn/8%len(none)], nil)
		return Sub{A: a}
	}
	some := [][]int{nil, {2}, {}, {3}, {1}, {2, 2}, {n}, {1, 2}, {}, {1, 1, 2}}
	if turn%3 == 0 {
		return Sub{All: true, A: array.Int(turn)}
	}
	s := some[turn%len(some)]
	a, _ := array.Nums(s, stepped(size(s), turn, 1+turn/3%n, n, origin)...)
	return Sub{A: a}
}

// badSub is a Sub that is wrong for an axis of length n, one of many.
func badSub(n, origin, turn int) Sub {
	huge, _ := ratio.From(2).Pow(64, 64)
	many, _ := array.None(false).Pick([]int{0, 4096}, nil)
	deep, _ := array.Int(origin).Pick(slices.Repeat([]int{1}, 8), []int{0})
	l := []array.Array{
		array.Int(n + origin), array.Int(origin - 1), array.Ints(origin, origin+n), array.Int(math.MinInt),
		array.Num(half(0)), array.Char('x'), array.Num(huge), array.Text([]rune{'1'}),
		many, deep, many, deep, many, deep,
	}
	return Sub{A: l[turn%len(l)]}
}

// someSubs are Subs for a shape, one of many; many of them are wrong in one place or
// in two, and some are too few or too many.
func someSubs(s []int, origin, turn int) []Sub {
	by := make([]Sub, len(s))
	for axis, n := range s {
		by[axis] = goodSub(n, origin, turn*7+axis*(turn%5+1))
	}
	if len(s) > 0 && turn%2 == 1 {
		axis := turn / 2 % len(s)
		by[axis] = badSub(s[axis], origin, turn/2)
		axis = (axis + turn/3) % len(s)
		if turn%6 == 1 {
			by[axis] = badSub(s[axis], origin, turn/5)
		}
	}
	switch turn % 25 {
	case 11:
		return append(by, Sub{All: true})
	case 23:
		return by[:max(len(by)-1, 0)]
	}
	return by
}
