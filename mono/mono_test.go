package mono

import (
	"math"
	"strings"
	"testing"

	"typeball/api"
	"typeball/ratio"
)

// functions are the signs of the chapter.
var functions = []rune{'+', '-', '|', '*', '!', '~', 0xd7, 0xf7, 0x2308, 0x230a, 0x235f, 0x25cb}

// must reads a number: digits, perhaps a minus ahead, perhaps a line and more digits
// behind.
func must(t *testing.T, text string) ratio.Rat {
	t.Helper()
	rest, neg := strings.CutPrefix(text, "-")
	top, bot, ok := strings.Cut(rest, "/")
	if !ok {
		bot = "1"
	}
	x, ok := ratio.Of(api.Num{Neg: neg, Top: top, Bot: bot})
	if !ok {
		t.Fatalf("no number: %q", text)
	}
	return x
}

// tell writes a number as must reads it.
func tell(x ratio.Rat) string {
	n := x.Num()
	text := n.Top
	if n.Bot != "1" {
		text += "/" + n.Bot
	}
	if n.Neg {
		text = "-" + text
	}
	return text
}

// everyRune calls yield with every code point, with runes on both sides of them, and with
// the ends of what a rune may be.
func everyRune(yield func(c rune)) {
	for c := rune(-1000); c < 0x110000+1000; c++ {
		yield(c)
	}
	for _, c := range []rune{math.MinInt32, math.MinInt32 + 1, math.MaxInt32 - 1, math.MaxInt32, -0xd7, 0xd7 | 1<<24, 0x10000000 + '+', '+' - 1<<31} {
		yield(c)
	}
}

func TestHas(t *testing.T) {
	known := map[rune]int{}
	for _, c := range functions {
		known[c]++
	}
	everyRune(func(c rune) {
		if got, want := Has(c), known[c] == 1; got != want {
			t.Errorf("Has(%x): %v", c, got)
		}
	})
}

// TestNoFunction: what is no function of one number is ErrSyntax, whatever the number and
// the limbs are.
func TestNoFunction(t *testing.T) {
	everyRune(func(c rune) {
		if Has(c) {
			return
		}
		if y, e := One(c, ratio.From(1), 4); e != api.ErrSyntax || tell(y) != "0" {
			t.Errorf("One(%x): %s, %d", c, tell(y), e)
		}
	})
	signs := []rune{0, -1, -'+', math.MinInt32, math.MaxInt32, 0xd800, 0xfffd, 0x110000}
	for _, c := range append(signs, []rune("<>=\u2264\u2265\u2260\u2227\u2228\u2372\u2371,?/\\01aA \u2374\u233d\u00d6\u00d8\u00f6\u00f8\u2307\u2309\u230b\u235e\u2360\u25ca\u25cc)(\"}{}\u007f\u2223\u2212\u2217")...) {
		if c == '|' {
			t.Fatal("a function among those that are none")
		}
		for _, text := range []string{"0", "1", "-1", "5", "1/2", "-7/2", "1" + strings.Repeat("0", 700), "-1/" + strings.Repeat("7", 700)} {
			for _, limbs := range []int{math.MinInt, -1, 0, 1, 4, 64} {
				if y, e := One(c, must(t, text), limbs); e != api.ErrSyntax || tell(y) != "0" {
					t.Errorf("One(%x, %.9s.., %d): %s, %d", c, text, limbs, tell(y), e)
				}
			}
		}
	}
}

// call is a call of One with the limbs 64, with what it answers, or with its error.
type call struct {
	c     rune
	x     string
	want  string
	wantE api.Errno
}

// calls are those whose answers are written out.
var calls = []call{
	// The chapter's examples.
	{c: '!', x: "5", want: "120"},
	{c: 0x2308, x: "7/2", want: "4"},

	{c: '+', x: "0", want: "0"},
	{c: '+', x: "1", want: "1"},
	{c: '+', x: "-1", want: "-1"},
	{c: '+', x: "12", want: "12"},
	{c: '+', x: "-7/2", want: "-7/2"},
	{c: '+', x: "99999999999999999999/7", want: "99999999999999999999/7"},

	{c: '-', x: "0", want: "0"},
	{c: '-', x: "1", want: "-1"},
	{c: '-', x: "-1", want: "1"},
	{c: '-', x: "12", want: "-12"},
	{c: '-', x: "7/2", want: "-7/2"},
	{c: '-', x: "-7/2", want: "7/2"},
	{c: '-', x: "-99999999999999999999", want: "99999999999999999999"},
	{c: '-', x: "-9223372036854775808", want: "9223372036854775808"},

	{c: '|', x: "0", want: "0"},
	{c: '|', x: "1", want: "1"},
	{c: '|', x: "-1", want: "1"},
	{c: '|', x: "12", want: "12"},
	{c: '|', x: "-12", want: "12"},
	{c: '|', x: "7/2", want: "7/2"},
	{c: '|', x: "-7/2", want: "7/2"},
	{c: '|', x: "-1/99999999999999999999", want: "1/99999999999999999999"},
	{c: '|', x: "-9223372036854775808", want: "9223372036854775808"},

	{c: 0xd7, x: "0", want: "0"},
	{c: 0xd7, x: "1", want: "1"},
	{c: 0xd7, x: "-1", want: "-1"},
	{c: 0xd7, x: "12", want: "1"},
	{c: 0xd7, x: "-12", want: "-1"},
	{c: 0xd7, x: "1/99999999999999999999", want: "1"},
	{c: 0xd7, x: "-1/99999999999999999999", want: "-1"},

	{c: 0xf7, x: "0", wantE: api.ErrDomain},
	{c: 0xf7, x: "1", want: "1"},
	{c: 0xf7, x: "-1", want: "-1"},
	{c: 0xf7, x: "12", want: "1/12"},
	{c: 0xf7, x: "-12", want: "-1/12"},
	{c: 0xf7, x: "1/12", want: "12"},
	{c: 0xf7, x: "-1/12", want: "-12"},
	{c: 0xf7, x: "7/2", want: "2/7"},
	{c: 0xf7, x: "-7/2", want: "-2/7"},
	{c: 0xf7, x: "-2/99999999999999999999", want: "-99999999999999999999/2"},

	{c: 0x2308, x: "0", want: "0"},
	{c: 0x2308, x: "1", want: "1"},
	{c: 0x2308, x: "-1", want: "-1"},
	{c: 0x2308, x: "3", want: "3"},
	{c: 0x2308, x: "-3", want: "-3"},
	{c: 0x2308, x: "-7/2", want: "-3"},
	{c: 0x2308, x: "1/3", want: "1"},
	{c: 0x2308, x: "-1/3", want: "0"},
	{c: 0x2308, x: "1/99999999999999999999", want: "1"},
	{c: 0x2308, x: "-1/99999999999999999999", want: "0"},
	{c: 0x2308, x: "99999999999999999999/2", want: "50000000000000000000"},

	{c: 0x230a, x: "0", want: "0"},
	{c: 0x230a, x: "1", want: "1"},
	{c: 0x230a, x: "-1", want: "-1"},
	{c: 0x230a, x: "3", want: "3"},
	{c: 0x230a, x: "-3", want: "-3"},
	{c: 0x230a, x: "7/2", want: "3"},
	{c: 0x230a, x: "-7/2", want: "-4"},
	{c: 0x230a, x: "1/3", want: "0"},
	{c: 0x230a, x: "-1/3", want: "-1"},
	{c: 0x230a, x: "1/99999999999999999999", want: "0"},
	{c: 0x230a, x: "-1/99999999999999999999", want: "-1"},
	{c: 0x230a, x: "99999999999999999999/2", want: "49999999999999999999"},

	{c: '!', x: "0", want: "1"},
	{c: '!', x: "1", want: "1"},
	{c: '!', x: "2", want: "2"},
	{c: '!', x: "3", want: "6"},
	{c: '!', x: "4", want: "24"},
	{c: '!', x: "12", want: "479001600"},
	{c: '!', x: "13", want: "6227020800"},
	{c: '!', x: "21", want: "51090942171709440000"},
	{c: '!', x: "30", want: "265252859812191058636308480000000"},
	{c: '!', x: "-1", wantE: api.ErrDomain},
	{c: '!', x: "-2", wantE: api.ErrDomain},
	{c: '!', x: "-99999999999999999999", wantE: api.ErrDomain},
	{c: '!', x: "1/2", wantE: api.ErrDomain},
	{c: '!', x: "-1/2", wantE: api.ErrDomain},
	{c: '!', x: "7/2", wantE: api.ErrDomain},
	{c: '!', x: "99999999999999999999/2", wantE: api.ErrDomain},

	{c: '~', x: "0", want: "1"},
	{c: '~', x: "1", want: "0"},
	{c: '~', x: "-1", wantE: api.ErrDomain},
	{c: '~', x: "2", wantE: api.ErrDomain},
	{c: '~', x: "-2", wantE: api.ErrDomain},
	{c: '~', x: "1/2", wantE: api.ErrDomain},
	{c: '~', x: "-1/2", wantE: api.ErrDomain},
	{c: '~', x: "3/2", wantE: api.ErrDomain},
	{c: '~', x: "1/99999999999999999999", wantE: api.ErrDomain},
	{c: '~', x: "4294967296", wantE: api.ErrDomain},
	{c: '~', x: "4294967297", wantE: api.ErrDomain},
	{c: '~', x: "18446744073709551616", wantE: api.ErrDomain},
	{c: '~', x: "18446744073709551617", wantE: api.ErrDomain},
}

func TestOne(t *testing.T) {
	for _, x := range calls {
		want := x.want
		if x.wantE != api.OK {
			want = "0"
		}
		if y, e := One(x.c, must(t, x.x), 64); tell(y) != want || e != x.wantE {
			t.Errorf("One(%x, %s): %s, %d, not %s, %d", x.c, x.x, tell(y), e, want, x.wantE)
		}
	}
}

// TestZeroValue: the zero value is the number 0.
func TestZeroValue(t *testing.T) {
	for _, c := range functions {
		y, e := One(c, ratio.Rat{}, 64)
		z, f := One(c, ratio.From(0), 64)
		if tell(y) != tell(z) || e != f {
			t.Errorf("One(%x): %s, %d, not %s, %d", c, tell(y), e, tell(z), f)
		}
	}
}

// TestNeverAnswered: some functions of one number answer ErrDomain for every number,
// also where no limbs are allowed.
func TestNeverAnswered(t *testing.T) {
	for _, c := range []rune{'*', 0x235f, 0x25cb} {
		for _, text := range append([]string{"2", "1/2", "-1/2", "100"}, edges()...) {
			for _, limbs := range []int{math.MinInt, -1, 0, 1, 64} {
				if y, e := One(c, must(t, text), limbs); e != api.ErrDomain || tell(y) != "0" {
					t.Errorf("One(%x, %.30s, %d): %s, %d", c, text, limbs, tell(y), e)
				}
			}
		}
	}
}

// TestNotHeedsNoLimbs: limbs forbid no result of ~, and the number itself is not counted,
// either.
func TestNotHeedsNoLimbs(t *testing.T) {
	for _, limbs := range []int{math.MinInt, -64, -1, 0, 1, 2, 63, 64} {
		for x, want := range map[int]string{0: "1", 1: "0"} {
			if y, e := One('~', ratio.From(x), limbs); e != api.OK || tell(y) != want {
				t.Errorf("~ %d, %d limbs: %s, %d", x, limbs, tell(y), e)
			}
		}
		for _, text := range []string{"-1", "2", "1/2", "1" + strings.Repeat("0", 700), "1/1" + strings.Repeat("0", 700)} {
			if y, e := One('~', must(t, text), limbs); e != api.ErrDomain || tell(y) != "0" {
				t.Errorf("~ %.9s.., %d limbs: %s, %d", text, limbs, tell(y), e)
			}
		}
	}
}

// TestDomainGoesFirst: a number that is none for the function is ErrDomain also where no
// result has so few limbs.
func TestDomainGoesFirst(t *testing.T) {
	long := "1" + strings.Repeat("0", 700)
	for _, limbs := range []int{math.MinInt, -1, 0, 1, 64} {
		for _, x := range []struct {
			c    rune
			text string
		}{
			{0xf7, "0"}, {'!', "-1"}, {'!', "1/2"}, {'!', "-1/2"}, {'!', "-" + long}, {'!', long + "/3"}, {'!', "1/" + long}, {'!', "-1/" + long},
		} {
			if y, e := One(x.c, must(t, x.text), limbs); e != api.ErrDomain || tell(y) != "0" {
				t.Errorf("One(%x, %.9s.., %d): %s, %d", x.c, x.text, limbs, tell(y), e)
			}
		}
	}
}

// TestNumberStays: no call changes the number that it is given.
func TestNumberStays(t *testing.T) {
	for _, text := range edges() {
		x := must(t, text)
		for _, c := range functions {
			One(c, x, 64)
			One(c, x, 0)
			if tell(x) != text {
				t.Fatalf("One(%x, %.30s): it is %.30s now", c, text, tell(x))
			}
		}
	}
}
