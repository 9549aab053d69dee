package pervade

import (
	"fmt"
	"slices"
	"testing"

	"typeball/api"
	"typeball/array"
	"typeball/dyad"
	"typeball/ratio"
)

// twos are calls of Two whose answers are written out.
var twos = []call{
	// The chapter's examples.
	{c: '+', a: "2:1 2", b: ":10", limbs: 4, want: "2:11 12"},
	{c: '=', a: "2'ab", b: "'b", limbs: 4, want: "2:0 1"},

	// Each function.
	{c: '+', a: "3:1 -2 3/4", b: "3:1/2 3 1/4", limbs: 4, want: "3:3/2 1 1"},
	{c: '-', a: "3:1 -2 3/4", b: "3:1/2 3 1/4", limbs: 4, want: "3:1/2 -5 1/2"},
	{c: 0xd7, a: "3:1 -2 3/4", b: "3:1/2 3 1/4", limbs: 4, want: "3:1/2 -6 3/16"},
	{c: 0xf7, a: "3:1 -2 0", b: "3:1/2 3 0", limbs: 4, want: "3:2 -2/3 1"},
	{c: 0x2308, a: "2:1 7/2", b: "2:2 3", limbs: 4, want: "2:2 7/2"},
	{c: 0x230a, a: "2:1 7/2", b: "2:2 3", limbs: 4, want: "2:1 3"},
	{c: '|', a: "3:3 -3 0", b: "3:7 7 7", limbs: 4, want: "3:1 -2 7"},
	{c: '*', a: "3:2 2/3 -1", b: "3:-3 2 5", limbs: 4, want: "3:1/8 4/9 -1"},
	{c: '!', a: "3:2 0 6", b: "3:5 5 5", limbs: 4, want: "3:10 1 0"},
	{c: '<', a: "3:1 2 3", b: "3:2 2 2", limbs: 4, want: "3:1 0 0"},
	{c: 0x2264, a: "3:1 2 3", b: "3:2 2 2", limbs: 4, want: "3:1 1 0"},
	{c: '=', a: "3:1 2 3", b: "3:2 2 2", limbs: 4, want: "3:0 1 0"},
	{c: 0x2265, a: "3:1 2 3", b: "3:2 2 2", limbs: 4, want: "3:0 1 1"},
	{c: '>', a: "3:1 2 3", b: "3:2 2 2", limbs: 4, want: "3:0 0 1"},
	{c: 0x2260, a: "3:1 2 3", b: "3:2 2 2", limbs: 4, want: "3:1 0 1"},
	{c: 0x2227, a: "4:0 0 1 1", b: "4:0 1 0 1", limbs: 4, want: "4:0 0 0 1"},
	{c: 0x2228, a: "4:0 0 1 1", b: "4:0 1 0 1", limbs: 4, want: "4:0 1 1 1"},
	{c: 0x2372, a: "4:0 0 1 1", b: "4:0 1 0 1", limbs: 4, want: "4:1 1 1 0"},
	{c: 0x2371, a: "4:0 0 1 1", b: "4:0 1 0 1", limbs: 4, want: "4:1 0 0 0"},
	{c: 0x235f, a: ":1", b: ":1", limbs: 4, wantE: api.ErrDomain},
	{c: 0x25cb, a: "2:1 2", b: "2:1 2", limbs: 4, wantE: api.ErrDomain},

	// Shapes: one, or an element everywhere in the other one's.
	{c: '-', a: ":5", b: ":3", limbs: 4, want: ":2"},
	{c: '-', a: "1:5", b: ":3", limbs: 4, want: "1:2"},
	{c: '-', a: ":5", b: "1:3", limbs: 4, want: "1:2"},
	{c: '-', a: "1 1:5", b: "1:3", limbs: 4, want: "1 1:2"},
	{c: '-', a: "1:5", b: "1 1 1 1 1 1 1 1:3", limbs: 4, want: "1 1 1 1 1 1 1 1:2"},
	{c: '-', a: "1 1 1:5", b: "2:3 4", limbs: 4, want: "2:2 1"},
	{c: '-', a: "2:3 4", b: "1 1 1:5", limbs: 4, want: "2:-2 -1"},
	{c: '-', a: "2 3:1 2 3 4 5 6", b: ":1", limbs: 4, want: "2 3:0 1 2 3 4 5"},
	{c: '-', a: "1:1", b: "2 3:1 2 3 4 5 6", limbs: 4, want: "2 3:0 -1 -2 -3 -4 -5"},
	{c: '-', a: "2 2:1 2 3 4", b: "2 2:40 30 20 10", limbs: 4, want: "2 2:-39 -28 -17 -6"},
	{c: '-', a: "2:1 2", b: "2 1:1 2", limbs: 4, wantE: api.ErrRank},
	{c: '-', a: "4:1 2 3 4", b: "2 2:1 2 3 4", limbs: 4, wantE: api.ErrRank},
	{c: '-', a: "2 1:1 2", b: "1 2:1 2", limbs: 4, wantE: api.ErrLength},
	{c: '-', a: "3:1 2 3", b: "2:1 2", limbs: 4, wantE: api.ErrLength},

	// Without elements: nothing is wrong with them, and the answer is of numbers.
	{c: '+', a: "0:", b: "0:", limbs: 4, want: "0:"},
	{c: '+', a: "0'", b: ":1", limbs: 4, want: "0:"},
	{c: '+', a: "'x", b: "0'", limbs: 4, want: "0:"},
	{c: 0xf7, a: ":1", b: "0'", limbs: 4, want: "0:"},
	{c: '<', a: "0'", b: "0:", limbs: 4, want: "0:"},
	{c: '<', a: "0:", b: "0'", limbs: 4, want: "0:"},
	{c: '=', a: "0'", b: "0'", limbs: 4, want: "0:"},
	{c: '=', a: "0'", b: "0:", limbs: 4, want: "0:"},
	{c: 0x2260, a: "1 1 1'x", b: "0:", limbs: 4, want: "0:"},
	{c: 0x25cb, a: "2 0 3'", b: "1'x", limbs: 4, want: "2 0 3:"},
	{c: 0x235f, a: "1:1/2", b: "0 4096:", limbs: 1, want: "0 4096:"},
	{c: '!', a: "2 0 3'", b: "2 0 3:", limbs: 1, want: "2 0 3:"},
	{c: '+', a: "0'", b: "0 0:", limbs: 4, wantE: api.ErrRank},
	{c: '=', a: "0'", b: "2'ab", limbs: 4, wantE: api.ErrLength},
	{c: '=', a: "0 3'", b: "3 0'", limbs: 4, wantE: api.ErrLength},

	// Characters: only = and 2260.
	{c: '=', a: "'x", b: "'x", limbs: 4, want: ":1"},
	{c: '=', a: "'x", b: "'y", limbs: 4, want: ":0"},
	{c: 0x2260, a: "'x", b: "'x", limbs: 4, want: ":0"},
	{c: 0x2260, a: "'x", b: "'y", limbs: 4, want: ":1"},
	{c: '=', a: "3'abc", b: "3'adc", limbs: 1, want: "3:1 0 1"},
	{c: 0x2260, a: "2 2'abca", b: "'a", limbs: 1, want: "2 2:0 1 1 0"},
	{c: '=', a: "1 1'b", b: "3'abb", limbs: 64, want: "3:0 1 1"},
	{c: '=', a: "3'aAa", b: "'A", limbs: 4, want: "3:0 1 0"},
	{c: '<', a: "'a", b: "'b", limbs: 4, wantE: api.ErrDomain},
	{c: '+', a: "2'ab", b: "2'ab", limbs: 4, wantE: api.ErrDomain},
	{c: 0x2227, a: "2'01", b: "2:0 1", limbs: 4, wantE: api.ErrDomain},
	{c: 0x25cb, a: "2:0 1", b: "'x", limbs: 4, wantE: api.ErrDomain},

	// Characters beside numbers: never the same.
	{c: '=', a: "'1", b: ":1", limbs: 4, want: ":0"},
	{c: '=', a: ":1", b: "'1", limbs: 4, want: ":0"},
	{c: 0x2260, a: "'a", b: "2:1 2", limbs: 4, want: "2:1 1"},
	{c: 0x2260, a: "2:97 98", b: "2'ab", limbs: 4, want: "2:1 1"},
	{c: '=', a: "2'ab", b: "2:97 98", limbs: 4, want: "2:0 0"},
	{c: '=', a: "2'\x00\x00", b: "2:0 1", limbs: 4, want: "2:0 0"},
	{c: 0x2260, a: "2:0 1", b: "'\x00", limbs: 4, want: "2:1 1"},
	{c: '=', a: "2'\x00a", b: "'\x00", limbs: 4, want: "2:1 0"},
	{c: '>', a: "'a", b: ":1", limbs: 4, wantE: api.ErrDomain},
	{c: 0xd7, a: ":0", b: "3'abc", limbs: 4, wantE: api.ErrDomain},

	// The first error, row by row.
	{c: 0xf7, a: "2:1 2", b: "2:1 0", limbs: 4, wantE: api.ErrDomain},
	{c: 0xf7, a: "2:4294967295 1", b: "2:1/2 0", limbs: 1, wantE: api.ErrLimit},
	{c: 0xf7, a: "2:1 4294967295", b: "2:0 1/2", limbs: 1, wantE: api.ErrDomain},
	{c: 0xf7, a: "2 2:1 4294967295 1 1", b: "2 2:1 1/2 0 1", limbs: 1, wantE: api.ErrLimit},
	{c: 0xf7, a: "2 2:1 1 4294967295 1", b: "2 2:1 0 1/2 1", limbs: 1, wantE: api.ErrDomain},
	{c: '*', a: ":2", b: "3:31 32 1/2", limbs: 1, wantE: api.ErrLimit},
	{c: '*', a: ":2", b: "3:31 1/2 32", limbs: 1, wantE: api.ErrDomain},
	{c: '*', a: "3:1 0 2", b: ":-32", limbs: 1, wantE: api.ErrDomain},
	{c: '*', a: "3:1 2 0", b: ":-32", limbs: 1, wantE: api.ErrLimit},
	{c: 0x2227, a: "3:1 0 2", b: ":1", limbs: 1, wantE: api.ErrDomain},

	// Which error comes first: of the function, of the shapes, of the elements.
	{c: '~', a: "2:1 2", b: "3:1 2 3", limbs: 4, wantE: api.ErrSyntax},
	{c: '~', a: "2 1:1 2", b: "2'ab", limbs: 4, wantE: api.ErrSyntax},
	{c: '?', a: "'a", b: "'b", limbs: 4, wantE: api.ErrSyntax},
	{c: ',', a: "0:", b: "0:", limbs: 4, wantE: api.ErrSyntax},
	{c: 0, a: ":1", b: ":1", limbs: 4, wantE: api.ErrSyntax},
	{c: '<', a: "2'ab", b: "2 1'ab", limbs: 4, wantE: api.ErrRank},
	{c: '<', a: "2'ab", b: "3'abc", limbs: 4, wantE: api.ErrLength},
	{c: 0x25cb, a: "2:1 2", b: "2 1:1 2", limbs: 4, wantE: api.ErrRank},
	{c: 0xf7, a: "2:1 2", b: "3:0 0 0", limbs: 4, wantE: api.ErrLength},
	{c: '+', a: "2:1 2", b: "3'abc", limbs: 4, wantE: api.ErrLength},
}

func TestTwo(t *testing.T) {
	for _, k := range twos {
		got, e := Two(k.c, of(t, k.a), of(t, k.b), k.limbs)
		isOrFails(t, got, e, k.want, k.wantE, "Two", k.c, "of", k.a, "and", k.b, "with", k.limbs)
	}
}

// TestTwoOfNoFunction: what dyad.Has doesn't know is ErrSyntax, whatever the arrays are;
// what it knows never is.
func TestTwoOfNoFunction(t *testing.T) {
	pairs := [][2]array.Array{
		{of(t, ":1"), of(t, ":1")},
		{of(t, "0'"), of(t, ":1")},
		{of(t, "'x"), of(t, "2'ab")},
		{of(t, "2:1 2"), of(t, "3:1 2 3")},
		{of(t, "2'ab"), of(t, "2 1:1 2")},
		{},
	}
	known := 0
	everyRune(func(c rune) {
		if dyad.Has(c) {
			known++
		}
		for _, p := range pairs {
			got, e := Two(c, p[0], p[1], 4)
			if (e != api.ErrSyntax) != dyad.Has(c) {
				t.Errorf("Two %x of %s and %s: error %d", c, tell(p[0]), tell(p[1]), e)
			}
			if e != api.OK && !array.Same(got, array.Array{}) {
				t.Errorf("Two %x of %s and %s: %s beside an error", c, tell(p[0]), tell(p[1]), tell(got))
			}
		}
	})
	if known != len(ofTwo) {
		t.Errorf("%d functions, not %d", known, len(ofTwo))
	}
}

// stretched are the elements of an array, each as a number and as a character, or one of
// them so many times.
func stretched(a array.Array, one bool, n int) ([]ratio.Rat, []rune) {
	l, text := a.Rats(), a.Runes()
	if one {
		return slices.Repeat(l, n), slices.Repeat(text, n)
	}
	return l, text
}

// twoOf is what Two answers, worked out element by element.
func twoOf(c rune, a, b array.Array, limbs int) (string, api.Errno) {
	f := fitOf(a.Shape(), b.Shape())
	if f.wantE != api.OK {
		return "", f.wantE
	}
	n := sizeOf(f.s)
	l, text := stretched(a, f.oneA, n)
	r, over := stretched(b, f.oneB, n)
	var answers []string
	for i := range n {
		same := "0"
		switch {
		case !a.IsChar() && !b.IsChar():
			y, e := dyad.Two(c, l[i], r[i], limbs)
			if e != api.OK {
				return "", e
			}
			answers = append(answers, tellRat(y))
			continue
		case a.IsChar() && b.IsChar() && text[i] == over[i]:
			same = "1"
		}
		switch c {
		case '=':
			answers = append(answers, same)
		case 0x2260:
			answers = append(answers, map[string]string{"0": "1", "1": "0"}[same])
		default:
			return "", api.ErrDomain
		}
	}
	return told(f.s, answers), api.OK
}

// checkTwo checks one call of Two against what its elements make.
func checkTwo(t *testing.T, c rune, a, b array.Array, limbs int) {
	t.Helper()
	want, wantE := twoOf(c, a, b, limbs)
	got, e := Two(c, a, b, limbs)
	isOrFails(t, got, e, want, wantE, "Two", c, "of", a, "and", b, "with", limbs)
}

// TestTwoOfMany: every function of arrays of all shapes beside each other, of both kinds.
func TestTwoOfMany(t *testing.T) {
	for _, s := range known {
		left := []array.Array{charsOf(t, s, "ab"), numsOf(t, s, "1 0 0 1 1")}
		for _, r := range known {
			right := []array.Array{charsOf(t, r, "bca"), numsOf(t, r, "0 1 1"), numsOf(t, r, "1/2 3 -1 0")}
			for at, c := range ofTwo {
				// Of the greatest arrays, some functions are enough.
				if at%6 > 0 && max(sizeOf(s), sizeOf(r)) > 1000 {
					continue
				}
				for _, a := range left {
					for _, b := range right {
						checkTwo(t, c, a, b, 4)
					}
				}
			}
		}
	}
}

// TestTwoOfNumbers: every function of many numbers, with limbs that are enough and that
// are not.
func TestTwoOfNumbers(t *testing.T) {
	lists := []string{"1 0", "2 3 5 -7", "1/2 -7/3 4 0", "4294967295 7 1/9", "4294967296 1 2", "0 0 1", near(64, -1) + " 3", "2 " + near(64, 0)}
	shapes := [][]int{nil, {7}, {3, 2}, {1, 1, 1}}
	for _, s := range shapes {
		for _, r := range shapes {
			for _, from := range lists {
				for _, with := range lists {
					a, b := numsOf(t, s, from), numsOf(t, r, with)
					for _, c := range ofTwo {
						for _, limbs := range []int{1, 2, 64} {
							checkTwo(t, c, a, b, limbs)
						}
					}
				}
			}
		}
	}
}

// TestTwoLimbs: results that have just as many limbs as are allowed, and one more.
func TestTwoLimbs(t *testing.T) {
	for _, limbs := range []int{1, 2, 63, 64} {
		full, over := near(limbs, -1), near(limbs, 0)
		for _, k := range []call{
			{c: '+', a: "2:1 2", b: "2:" + near(limbs, -2) + " " + near(limbs, -3), want: "2:" + full + " " + full},
			{c: '+', a: "2:1 3", b: "2:" + near(limbs, -2) + " " + near(limbs, -3), wantE: api.ErrLimit},
			{c: '-', a: ":-1", b: "2:" + near(limbs, -2) + " 1", want: "2:-" + full + " -2"},
			{c: '-', a: "2:1 -1", b: ":" + full, wantE: api.ErrLimit},
			{c: 0xd7, a: "2:1 -1", b: ":" + full, want: "2:" + full + " -" + full},
			{c: 0xd7, a: "2:1 2", b: ":" + full, wantE: api.ErrLimit},
			{c: 0xf7, a: ":1", b: "2:-" + full + " 1", want: "2:-1/" + full + " 1"},
			{c: 0xf7, a: ":1", b: "2:1 " + over, wantE: api.ErrLimit},
			{c: 0xf7, a: "2:1 2", b: ":" + over, wantE: api.ErrLimit},
			{c: 0x2308, a: "2:1 " + over, b: "2:2 " + full, wantE: api.ErrLimit},
			{c: 0x230a, a: "2:1 " + over, b: "2:2 " + full, want: "2:1 " + full},
			{c: '*', a: ":2", b: fmt.Sprintf("2:1 %d", 32*limbs-1), want: "2:2 " + tellRat(power(limbs).Times(half()))},
			{c: '*', a: ":2", b: fmt.Sprintf("2:1 %d", 32*limbs), wantE: api.ErrLimit},
			{c: '*', a: ":2", b: fmt.Sprintf("2:1 -%d", 32*limbs), wantE: api.ErrLimit},
			{c: '<', a: "2:1 -" + over, b: ":" + over, want: "2:1 1"},
			{c: '=', a: "2:1 " + over, b: ":" + over, want: "2:0 1"},
			{c: 0x2260, a: "2:1 " + over, b: "'x", want: "2:1 1"},
			{c: 0x2227, a: "2:1 " + over, b: ":1", wantE: api.ErrDomain},
		} {
			got, e := Two(k.c, of(t, k.a), of(t, k.b), limbs)
			isOrFails(t, got, e, k.want, k.wantE, "Two", k.c, "of", k.a, "and", k.b, "with", limbs)
		}
	}
}

// half is a half.
func half() ratio.Rat {
	x, _ := ratio.Of(number("1/2"))
	return x
}

// TestTwoKeeps: the arrays stay as they were, also where one is both.
func TestTwoKeeps(t *testing.T) {
	for _, k := range twos {
		a, b := of(t, k.a), of(t, k.b)
		first, _ := Two(k.c, a, b, k.limbs)
		was := tell(first)
		for _, c := range ofTwo {
			Two(c, b, a, k.limbs)
			Two(c, a, a, k.limbs)
			Two(c, first, a, k.limbs)
		}
		if tell(a) != k.a || tell(b) != k.b || tell(first) != was {
			t.Errorf("%s and %s and %s changed to %s and %s and %s", k.a, k.b, was, tell(a), tell(b), tell(first))
		}
	}
}

// TestTwoExchanged: sums and products, and what is equal, don't depend on the order of
// the arrays; a comparison turns into the opposite one.
func TestTwoExchanged(t *testing.T) {
	turned := map[rune]rune{'+': '+', 0xd7: 0xd7, '=': '=', 0x2260: 0x2260, '<': '>', 0x2264: 0x2265, 0x2227: 0x2227, 0x2371: 0x2371}
	for _, s := range known {
		for _, r := range known {
			a, b := numsOf(t, s, "1 0 1 1"), numsOf(t, r, "0 1 1")
			for c, d := range turned {
				x, e := Two(c, a, b, 4)
				y, f := Two(d, b, a, 4)
				if e != f || !array.Same(x, y) {
					t.Errorf("%c of %v and %v: %d, exchanged %d", c, s, r, e, f)
				}
			}
		}
	}
}
