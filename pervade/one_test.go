package pervade

import (
	"testing"

	"typeball/api"
	"typeball/array"
	"typeball/mono"
)

// call is a call of One, or of Two, with what it answers, or with its error.
type call struct {
	c     rune
	a, b  string
	limbs int
	want  string
	wantE api.Errno
}

// ones are calls of One whose answers are written out.
var ones = []call{
	// Each function.
	{c: '+', a: "3:1 -2 3/4", limbs: 4, want: "3:1 -2 3/4"},
	{c: '-', a: "2 2:1 2 -3 4/5", limbs: 4, want: "2 2:-1 -2 3 -4/5"},
	{c: 0xd7, a: "4:-7/2 0 1/9 3", limbs: 4, want: "4:-1 0 1 1"},
	{c: 0xf7, a: "3:2 -1/3 -4/5", limbs: 4, want: "3:1/2 -3 -5/4"},
	{c: 0x2308, a: "4:7/2 -7/2 2 -2", limbs: 4, want: "4:4 -3 2 -2"},
	{c: 0x230a, a: "4:7/2 -7/2 2 -2", limbs: 4, want: "4:3 -4 2 -2"},
	{c: '|', a: "3:-7/2 0 3", limbs: 4, want: "3:7/2 0 3"},
	{c: '!', a: "6:0 1 2 3 4 5", limbs: 4, want: "6:1 1 2 6 24 120"},
	{c: '~', a: "3:0 1 0", limbs: 4, want: "3:1 0 1"},
	{c: '*', a: ":1", limbs: 4, wantE: api.ErrDomain},
	{c: 0x235f, a: ":1", limbs: 4, wantE: api.ErrDomain},
	{c: 0x25cb, a: "2 1:1 1", limbs: 4, wantE: api.ErrDomain},

	// Shapes.
	{c: '-', a: ":5", limbs: 4, want: ":-5"},
	{c: '-', a: "1:5", limbs: 4, want: "1:-5"},
	{c: '-', a: "1 1 1 1 1 1 1 1:5", limbs: 4, want: "1 1 1 1 1 1 1 1:-5"},
	{c: '-', a: "3 2:1 2 3 4 5 6", limbs: 4, want: "3 2:-1 -2 -3 -4 -5 -6"},
	{c: '-', a: "2 1 3:1 2 3 4 5 6", limbs: 4, want: "2 1 3:-1 -2 -3 -4 -5 -6"},

	// Without elements: nothing is wrong with them, and what was of characters is of
	// numbers.
	{c: '-', a: "0:", limbs: 4, want: "0:"},
	{c: '*', a: "0:", limbs: 1, want: "0:"},
	{c: '*', a: "0'", limbs: 1, want: "0:"},
	{c: '~', a: "3 0 2'", limbs: 4, want: "3 0 2:"},
	{c: 0x25cb, a: "0 4096'", limbs: 64, want: "0 4096:"},
	{c: 0xf7, a: "1 2 3 0 4 3 2 1:", limbs: 4, want: "1 2 3 0 4 3 2 1:"},

	// Characters.
	{c: '+', a: "'x", limbs: 4, wantE: api.ErrDomain},
	{c: '+', a: "1'x", limbs: 4, wantE: api.ErrDomain},
	{c: '-', a: "2 2'abcd", limbs: 4, wantE: api.ErrDomain},
	{c: '~', a: "3'010", limbs: 4, wantE: api.ErrDomain},
	{c: 0xd7, a: "1 1 1 1 1 1 1 1'1", limbs: 4, wantE: api.ErrDomain},
	{c: '*', a: "3'abc", limbs: 4, wantE: api.ErrDomain},
	{c: '+', a: "1'\x00", limbs: 4, wantE: api.ErrDomain},

	// The first error, row by row.
	{c: 0xf7, a: "3:1 2 0", limbs: 4, wantE: api.ErrDomain},
	{c: 0xf7, a: "3:0 1 2", limbs: 4, wantE: api.ErrDomain},
	{c: 0xf7, a: "2 2:1 2 0 4", limbs: 4, wantE: api.ErrDomain},
	{c: '!', a: "2:13 1/2", limbs: 1, wantE: api.ErrLimit},
	{c: '!', a: "2:1/2 13", limbs: 1, wantE: api.ErrDomain},
	{c: '!', a: "2 2:1 13 -1 2", limbs: 1, wantE: api.ErrLimit},
	{c: '!', a: "2 2:1 -1 13 2", limbs: 1, wantE: api.ErrDomain},
	{c: '!', a: "2 2:1 2 13 -1", limbs: 1, wantE: api.ErrLimit},
	{c: '!', a: "2 2:1 2 -1 13", limbs: 1, wantE: api.ErrDomain},
	{c: '!', a: "2 2:1 12 2 3", limbs: 1, want: "2 2:1 479001600 2 6"},

	// What is no function of one number.
	{c: '<', a: ":1", limbs: 4, wantE: api.ErrSyntax},
	{c: '=', a: "0:", limbs: 4, wantE: api.ErrSyntax},
	{c: '?', a: "3'abc", limbs: 4, wantE: api.ErrSyntax},
	{c: 0x2260, a: "0'", limbs: 4, wantE: api.ErrSyntax},
	{c: 0x2227, a: "2:1 2", limbs: 1, wantE: api.ErrSyntax},
	{c: 0, a: "2 2'abcd", limbs: 64, wantE: api.ErrSyntax},
}

func TestOne(t *testing.T) {
	for _, k := range ones {
		got, e := One(k.c, of(t, k.a), k.limbs)
		isOrFails(t, got, e, k.want, k.wantE, "One", k.c, "of", k.a, "with", k.limbs)
	}
}

// TestOneOfNoFunction: what mono.Has doesn't know is ErrSyntax, whatever the array is;
// what it knows never is.
func TestOneOfNoFunction(t *testing.T) {
	arrays := []array.Array{of(t, ":1"), of(t, "0'"), of(t, "0 3:"), of(t, "2 2:0 1/2 3 -4"), of(t, "'x"), of(t, "2'ab"), {}}
	known := 0
	everyRune(func(c rune) {
		if mono.Has(c) {
			known++
		}
		for _, a := range arrays {
			got, e := One(c, a, 4)
			if (e != api.ErrSyntax) != mono.Has(c) {
				t.Errorf("One %x of %s: error %d", c, tell(a), e)
			}
			if e != api.OK && !array.Same(got, array.Array{}) {
				t.Errorf("One %x of %s: %s beside an error", c, tell(a), tell(got))
			}
		}
	})
	if known != len(ofOne) {
		t.Errorf("%d functions, not %d", known, len(ofOne))
	}
}

// oneOf is what One answers, worked out element by element.
func oneOf(c rune, a array.Array, limbs int) (string, api.Errno) {
	if a.IsChar() && sizeOf(a.Shape()) > 0 {
		return "", api.ErrDomain
	}
	var l []string
	for _, x := range a.Rats() {
		y, e := mono.One(c, x, limbs)
		if e != api.OK {
			return "", e
		}
		l = append(l, tellRat(y))
	}
	return told(a.Shape(), l), api.OK
}

// TestOneOfMany: every function of arrays of all shapes, with what it makes of each
// element, and the first error.
func TestOneOfMany(t *testing.T) {
	lists := []string{"0", "1 0", "1 2 3 5", "1/2 -7/3 4 -1", "20 2 1/2", "3 -1 30", "4294967296 -5 0", near(64, -1) + " 1 0", near(64, 0)}
	for _, s := range known {
		arrays := []array.Array{charsOf(t, s, "01x")}
		for _, from := range lists {
			arrays = append(arrays, numsOf(t, s, from))
		}
		for _, c := range ofOne {
			for _, a := range arrays {
				for _, limbs := range []int{1, 2, 64} {
					want, wantE := oneOf(c, a, limbs)
					got, e := One(c, a, limbs)
					isOrFails(t, got, e, want, wantE, "One", c, "of", a, "with", limbs)
				}
			}
		}
	}
}

// TestOneLimbs: results that have just as many limbs as are allowed, and one more.
func TestOneLimbs(t *testing.T) {
	for _, limbs := range []int{1, 2, 63, 64} {
		full, over := near(limbs, -1), near(limbs, 0)
		for _, k := range []call{
			{c: '+', a: "2:1 " + full, want: "2:1 " + full},
			{c: '+', a: "2:1 " + over, wantE: api.ErrLimit},
			{c: '-', a: "2 1:" + full + " -" + full, want: "2 1:-" + full + " " + full},
			{c: '-', a: "2 1:" + full + " -" + over, wantE: api.ErrLimit},
			{c: '|', a: ":-" + full, want: ":" + full},
			{c: '|', a: ":-" + over, wantE: api.ErrLimit},
			{c: 0xf7, a: "1:" + full, want: "1:1/" + full},
			{c: 0xf7, a: "1:-1/" + full, want: "1:-" + full},
			{c: 0xf7, a: "1:" + over, wantE: api.ErrLimit},
			{c: 0xf7, a: "2:1/" + over + " 0", wantE: api.ErrLimit},
			{c: 0xf7, a: "2:0 1/" + over, wantE: api.ErrDomain},
			{c: 0xd7, a: "3:" + full + " -" + over + " 1/" + over, want: "3:1 -1 1"},
			{c: 0x2308, a: "2:1/" + over + " -1/" + over, want: "2:1 0"},
			{c: 0x230a, a: "2:1/" + over + " -1/" + over, want: "2:0 -1"},
			{c: '~', a: "2:0 " + over, wantE: api.ErrDomain},
			{c: '!', a: "2:1 " + over, wantE: api.ErrLimit},
		} {
			got, e := One(k.c, of(t, k.a), limbs)
			isOrFails(t, got, e, k.want, k.wantE, "One", k.c, "of", k.a, "with", limbs)
		}
	}
}

// TestOneKeeps: the array stays as it was, and so does an answer.
func TestOneKeeps(t *testing.T) {
	for _, k := range ones {
		a := of(t, k.a)
		first, _ := One(k.c, a, k.limbs)
		was := tell(first)
		for _, c := range ofOne {
			One(c, a, k.limbs)
			One(c, first, k.limbs)
		}
		if tell(a) != k.a || tell(first) != was {
			t.Errorf("%s and %s changed to %s and %s", k.a, was, tell(a), tell(first))
		}
	}
}

// TestOneTwice: minus, and the reciprocal, applied twice give the array.
func TestOneTwice(t *testing.T) {
	for _, s := range known {
		a := numsOf(t, s, "1/2 -7/3 4 -1 99999999999999999999")
		for _, c := range []rune{'-', 0xf7} {
			b, e := One(c, a, api.MaxLimbs)
			if e != api.OK {
				t.Fatal(c, s, e)
			}
			got, e := One(c, b, api.MaxLimbs)
			isOrFails(t, got, e, tell(a), api.OK, "One", c, "twice of", a)
		}
	}
}
