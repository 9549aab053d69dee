package pervade

import (
	"fmt"
	"math"
	"strings"
	"testing"

	"typeball/api"
	"typeball/array"
	"typeball/ratio"
)

// The signs of chapters 12 and 13.
var (
	ofOne = []rune{'+', '-', '|', '*', '!', '~', 0xd7, 0xf7, 0x2308, 0x230a, 0x235f, 0x25cb}
	ofTwo = []rune{
		'+', '-', '|', '*', '!', '<', '=', '>', 0xd7, 0xf7, 0x2308, 0x230a, 0x235f, 0x25cb,
		0x2264, 0x2265, 0x2260, 0x2227, 0x2228, 0x2372, 0x2371,
	}
)

// everyRune calls yield with every code point, with runes on both sides of them, and with
// the ends of what a rune may be.
func everyRune(yield func(c rune)) {
	for c := rune(-1000); c < 0x110000+1000; c++ {
		yield(c)
	}
	for _, c := range []rune{math.MinInt32, math.MinInt32 + 1, math.MaxInt32 - 1, math.MaxInt32, -0xd7, 0xd7 | 1<<24, '+' - 1<<31} {
		yield(c)
	}
}

// known are shapes, with and without elements, of one element with all numbers of axes,
// and of more.
var known = [][]int{
	nil,
	{0},
	{1},
	{2},
	{3},
	{300},
	{4096},
	{1, 1},
	{2, 3},
	{3, 2},
	{1, 2},
	{2, 1},
	{0, 3},
	{3, 0},
	{0, 1},
	{1, 0},
	{0, 0},
	{1, 4096},
	{1, 1, 1},
	{2, 3, 4},
	{2, 0, 4},
	{1, 1, 1, 1},
	{2, 3, 4, 5},
	{1, 1, 1, 1, 1},
	{1, 1, 1, 1, 1, 1},
	{2, 2, 3, 2, 2, 1},
	{1, 1, 1, 1, 1, 1, 1},
	{1, 1, 1, 1, 1, 1, 1, 1},
	{2, 2, 2, 2, 2, 2, 2, 2},
	{1, 1, 1, 1, 1, 1, 1, 2},
	{1, 2, 3, 0, 4, 3, 2, 1},
}

// number reads a number: digits, perhaps a minus ahead, perhaps a line and more
// digits behind.
func number(text string) api.Num {
	rest, neg := strings.CutPrefix(text, "-")
	top, bot, ok := strings.Cut(rest, "/")
	if !ok {
		bot = "1"
	}
	return api.Num{Neg: neg, Top: top, Bot: bot}
}

// of reads an array as tell writes it.
func of(t *testing.T, text string) array.Array {
	t.Helper()
	at := strings.IndexAny(text, ":'")
	if at < 0 {
		t.Fatalf("no array: %q", text)
	}
	p := api.Plain{Char: text[at] == '\''}
	for _, word := range strings.Fields(text[:at]) {
		n := 0
		fmt.Sscan(word, &n)
		p.Shape = append(p.Shape, n)
	}
	if p.Char {
		p.Text = []rune(text[at+1:])
	} else {
		for _, word := range strings.Fields(text[at+1:]) {
			p.Nums = append(p.Nums, number(word))
		}
	}
	a, ok := array.Of(p)
	if !ok {
		t.Fatalf("no array: %q", text)
	}
	return a
}

// tellRat writes a number as number reads it.
func tellRat(x ratio.Rat) string {
	n := x.Num()
	text := n.Top
	if n.Neg {
		text = "-" + text
	}
	if n.Bot != "1" {
		text += "/" + n.Bot
	}
	return text
}

// tellShape writes a shape.
func tellShape(s []int) string {
	words := make([]string, len(s))
	for axis, n := range s {
		words[axis] = fmt.Sprint(n)
	}
	return strings.Join(words, " ")
}

// told writes an array of numbers, whose texts these are.
func told(s []int, l []string) string { return tellShape(s) + ":" + strings.Join(l, " ") }

// tell writes an array: its shape; a colon and its numbers, or a quote and its
// characters.
func tell(a array.Array) string {
	if a.IsChar() {
		return tellShape(a.Shape()) + "'" + string(a.Runes())
	}
	var l []string
	for _, x := range a.Rats() {
		l = append(l, tellRat(x))
	}
	return told(a.Shape(), l)
}

// short writes what was asked, cut where it is long: arrays as tell does, signs as
// numbers.
func short(what ...any) string {
	words := make([]string, len(what))
	for i, x := range what {
		switch x := x.(type) {
		case array.Array:
			words[i] = tell(x)
		case rune:
			words[i] = fmt.Sprintf("%x", x)
		default:
			words[i] = fmt.Sprint(x)
		}
		if len(words[i]) > 200 {
			words[i] = words[i][:200] + ".."
		}
	}
	return strings.Join(words, " ")
}

// isOrFails reports an error unless there is an array, and it is as tell writes it; or,
// where an error is wanted, unless there is this one, and the zero value beside it.
func isOrFails(t *testing.T, a array.Array, e api.Errno, want string, wantE api.Errno, what ...any) {
	t.Helper()
	if wantE != api.OK {
		want = "0:"
	}
	if e != wantE || tell(a) != want {
		t.Errorf("%s: got %s and error %d, not %s and %d", short(what...), short(a), e, short(want), wantE)
	}
	if n, ok := array.Count(a.Shape()); !ok || n != a.Len() {
		t.Errorf("%s: %d elements of shape %v", short(what...), a.Len(), a.Shape())
	}
}

// numsOf is an array of a shape whose numbers come from these, again and again.
func numsOf(t *testing.T, s []int, from string) array.Array {
	t.Helper()
	words := strings.Fields(from)
	l := make([]ratio.Rat, sizeOf(s))
	for i := range l {
		x, ok := ratio.Of(number(words[i%len(words)]))
		if !ok {
			t.Fatalf("no number: %q", words[i%len(words)])
		}
		l[i] = x
	}
	a, ok := array.Nums(s, l...)
	if !ok {
		t.Fatalf("no shape: %v", s)
	}
	return a
}

// charsOf is an array of a shape whose characters come from these, again and again.
func charsOf(t *testing.T, s []int, from string) array.Array {
	t.Helper()
	runes := []rune(from)
	l := make([]rune, sizeOf(s))
	for i := range l {
		l[i] = runes[i%len(runes)]
	}
	a, ok := array.Chars(s, l...)
	if !ok {
		t.Fatalf("no shape: %v", s)
	}
	return a
}

// sizeOf is how many elements a shape has.
func sizeOf(s []int) int {
	n := 1
	for _, k := range s {
		n *= k
	}
	return n
}

// power is 2 to the power 32n, which has n+1 limbs; less 1 it has n.
func power(n int) ratio.Rat {
	x := ratio.From(1)
	for range n {
		x = x.Times(ratio.From(1 << 32))
	}
	return x
}

// near is power(n) with so many more.
func near(n, more int) string { return tellRat(power(n).Plus(ratio.From(more))) }
