package find

import (
	"fmt"
	"math"
	"math/big"
	"strings"
	"testing"

	"typeball/api"
	"typeball/array"
	"typeball/ratio"
)

// known are shapes, with and without elements, of one element with all numbers of axes,
// and of more.
var known = [][]int{
	nil,
	{0},
	{1},
	{2},
	{3},
	{300},
	{1, 1},
	{2, 3},
	{3, 2},
	{1, 2},
	{2, 1},
	{0, 3},
	{3, 0},
	{0, 1},
	{1, 0},
	{0, 0},
	{20, 20},
	{1, 1, 1},
	{2, 3, 4},
	{2, 0, 4},
	{1, 1, 1, 1},
	{2, 3, 4, 5},
	{1, 1, 1, 1, 1},
	{1, 1, 1, 1, 1, 1},
	{2, 2, 3, 2, 2, 1},
	{1, 1, 1, 1, 1, 1, 1},
	{1, 1, 1, 1, 1, 1, 1, 1},
	{2, 2, 2, 2, 2, 2, 2, 2},
	{1, 1, 1, 1, 1, 1, 1, 2},
	{1, 2, 3, 0, 4, 3, 2, 1},
}

// farRunes are characters at the ends of what a rune may be, and about them; the sign
// of a negative number, and others of one byte and of more.
var farRunes = []rune{
	0, 'a', math.MaxInt32, -1, 0xaf, math.MinInt32, 0x10ffff, 'A', 0xd800, 0x2260, math.MinInt32 + 1, ' ', 0xfffd, -0x41, 'B', 1, 0x110000, 0xff,
}

// number reads a number: digits, perhaps a minus ahead, perhaps a line and more
// digits behind.
func number(text string) api.Num {
	rest, neg := strings.CutPrefix(text, "-")
	top, bot, ok := strings.Cut(rest, "/")
	if !ok {
		bot = "1"
	}
	return api.Num{Neg: neg, Top: top, Bot: bot}
}

// of reads an array as tell writes it.
func of(t *testing.T, text string) array.Array {
	t.Helper()
	at := strings.IndexAny(text, ":'")
	if at < 0 {
		t.Fatalf("no array: %q", text)
	}
	p := api.Plain{Char: text[at] == '\''}
	for _, word := range strings.Fields(text[:at]) {
		n := 0
		fmt.Sscan(word, &n)
		p.Shape = append(p.Shape, n)
	}
	if p.Char {
		p.Text = []rune(text[at+1:])
	} else {
		for _, word := range strings.Fields(text[at+1:]) {
			p.Nums = append(p.Nums, number(word))
		}
	}
	a, ok := array.Of(p)
	if !ok {
		t.Fatalf("no array: %q", text)
	}
	return a
}

// tellRat writes a number as number reads it.
func tellRat(x ratio.Rat) string {
	n := x.Num()
	text := n.Top
	if n.Neg {
		text = "-" + text
	}
	if n.Bot != "1" {
		text += "/" + n.Bot
	}
	return text
}

// told writes an array of these integers, as tell does.
func told(s, l []int) string {
	return strings.Trim(fmt.Sprint(s), "[]") + ":" + strings.Trim(fmt.Sprint(l), "[]")
}

// tell writes an array: its shape; a colon and its numbers, or a quote and its
// characters.
func tell(a array.Array) string {
	head := strings.Trim(fmt.Sprint(a.Shape()), "[]")
	if a.IsChar() {
		return head + "'" + string(a.Runes())
	}
	var l []string
	for _, x := range a.Rats() {
		l = append(l, tellRat(x))
	}
	return head + ":" + strings.Join(l, " ")
}

// short writes what was asked, cut where it is long: arrays as tell does.
func short(what ...any) string {
	words := make([]string, len(what))
	for i, x := range what {
		words[i] = fmt.Sprint(x)
		if a, ok := x.(array.Array); ok {
			words[i] = tell(a)
		}
		if len(words[i]) > 200 {
			words[i] = strings.ToValidUTF8(words[i][:200], "") + ".."
		}
	}
	return strings.Join(words, " ")
}

// isOrFails reports an error unless there is an array, and it is as tell writes it; or,
// where an error is wanted, unless there is this one, and the zero value beside it.
func isOrFails(t *testing.T, a array.Array, e api.Errno, want string, wantE api.Errno, what ...any) {
	t.Helper()
	if wantE != api.OK {
		want = "0:"
	}
	if e != wantE || tell(a) != want {
		t.Errorf("%s: got %s and error %d, not %s and %d", short(what...), short(a), e, short(want), wantE)
	}
	if n, ok := array.Count(a.Shape()); !ok || n != a.Len() {
		t.Errorf("%s: %d elements of shape %v", short(what...), a.Len(), a.Shape())
	}
}

// sizeOf is how many elements a shape has.
func sizeOf(s []int) int {
	n := 1
	for _, k := range s {
		n *= k
	}
	return n
}

// numsOf is an array of a shape whose numbers come from these, again and again.
func numsOf(t *testing.T, s []int, from string) array.Array {
	t.Helper()
	words := strings.Fields(from)
	l := make([]ratio.Rat, sizeOf(s))
	for i := range l {
		x, ok := ratio.Of(number(words[i%len(words)]))
		if !ok {
			t.Fatalf("no number: %q", words[i%len(words)])
		}
		l[i] = x
	}
	a, ok := array.Nums(s, l...)
	if !ok {
		t.Fatalf("no shape: %v", s)
	}
	return a
}

// charsOf is an array of a shape whose characters come from these, again and again.
func charsOf(t *testing.T, s []int, from ...rune) array.Array {
	t.Helper()
	l := make([]rune, sizeOf(s))
	for i := range l {
		l[i] = from[i%len(from)]
	}
	a, ok := array.Chars(s, l...)
	if !ok {
		t.Fatalf("no shape: %v", s)
	}
	return a
}

// keysOf are the elements as texts, which are the same if the elements are, and are of
// one kind.
func keysOf(a array.Array) []string {
	var l []string
	for _, x := range a.Rats() {
		l = append(l, "number "+tellRat(x))
	}
	for _, c := range a.Runes() {
		l = append(l, fmt.Sprint("character ", c))
	}
	return l
}

// valuesOf are the elements as numbers of another implementation.
func valuesOf(a array.Array) []*big.Rat {
	var l []*big.Rat
	for _, x := range a.Rats() {
		y, _ := new(big.Rat).SetString(tellRat(x))
		l = append(l, y)
	}
	for _, c := range a.Runes() {
		l = append(l, new(big.Rat).SetInt64(int64(c)))
	}
	return l
}

// near is 2 to the power 32n, which has n+1 limbs, with so many more; less 1 it has n.
func near(n, more int) string {
	x := new(big.Int).Lsh(big.NewInt(1), uint(32*n))
	return x.Add(x, big.NewInt(int64(more))).String()
}
