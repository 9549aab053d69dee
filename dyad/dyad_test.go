package dyad

import (
	"math"
	"strings"
	"testing"

	"typeball/api"
	"typeball/ratio"
)

// The signs of the chapter, kind by kind.
var (
	comparisons = []rune{'<', 0x2264, '=', 0x2265, '>', 0x2260}
	truths      = []rune{0x2227, 0x2228, 0x2372, 0x2371}
	numerics    = []rune{'+', '-', 0xd7, 0xf7, 0x2308, 0x230a, '|', '*', '!', 0x235f, 0x25cb}
)

// functions returns all signs of the chapter.
func functions() []rune {
	all := append([]rune{}, comparisons...)
	all = append(all, truths...)
	return append(all, numerics...)
}

// must reads a number: digits, perhaps a minus ahead, perhaps a line and more digits
// behind.
func must(t *testing.T, text string) ratio.Rat {
	t.Helper()
	rest, neg := strings.CutPrefix(text, "-")
	top, bot, ok := strings.Cut(rest, "/")
	if !ok {
		bot = "1"
	}
	x, ok := ratio.Of(api.Num{Neg: neg, Top: top, Bot: bot})
	if !ok {
		t.Fatalf("no number: %q", text)
	}
	return x
}

// tell writes a number as must reads it.
func tell(x ratio.Rat) string {
	n := x.Num()
	text := n.Top
	if n.Bot != "1" {
		text += "/" + n.Bot
	}
	if n.Neg {
		text = "-" + text
	}
	return text
}

// check checks one call of Two.
func check(t *testing.T, c rune, a, b ratio.Rat, limbs int, want string, wantE api.Errno) {
	t.Helper()
	if wantE != api.OK {
		want = "0"
	}
	if y, e := Two(c, a, b, limbs); tell(y) != want || e != wantE {
		t.Errorf("Two(%x, %.40s, %.40s, %d): %.40s, %d, not %.40s, %d", c, tell(a), tell(b), limbs, tell(y), e, want, wantE)
	}
}

// everyRune calls yield with every code point, with runes on both sides of them, and with
// the ends of what a rune may be.
func everyRune(yield func(c rune)) {
	for c := rune(-1000); c < 0x110000+1000; c++ {
		yield(c)
	}
	for _, c := range []rune{math.MinInt32, math.MinInt32 + 1, math.MaxInt32 - 1, math.MaxInt32, -0xd7, 0xd7 | 1<<24, 0x10000000 + '+', '+' - 1<<31} {
		yield(c)
	}
}

func TestHas(t *testing.T) {
	known := map[rune]int{}
	for _, c := range functions() {
		known[c]++
	}
	if len(known) != 21 {
		t.Fatalf("%d functions", len(known))
	}
	everyRune(func(c rune) {
		if got, want := Has(c), known[c] == 1; got != want {
			t.Errorf("Has(%x): %v", c, got)
		}
	})
}

// TestNoFunction: what is no function of two numbers is ErrSyntax, whatever the numbers
// and the limbs are.
func TestNoFunction(t *testing.T) {
	one := ratio.From(1)
	everyRune(func(c rune) {
		if !Has(c) {
			check(t, c, one, one, 4, "0", api.ErrSyntax)
		}
	})
	long := "1" + strings.Repeat("0", 700)
	signs := []rune{0, -1, -'+', math.MinInt32, math.MaxInt32, 0xd800, 0xfffd, 0x110000, '~', '?', ',', 0x2206}
	for _, c := range functions() {
		for _, near := range []rune{c - 1, c + 1} {
			if !Has(near) {
				signs = append(signs, near)
			}
		}
	}
	texts := []string{"0", "1", "-1", "1/2", "2", "-7/3", long, "-" + long, "1/" + long}
	for _, c := range signs {
		for _, a := range texts {
			for _, b := range texts {
				for _, limbs := range []int{1, 2, 64} {
					check(t, c, must(t, a), must(t, b), limbs, "0", api.ErrSyntax)
				}
			}
		}
	}
}

// holds tells for which numbers a comparison holds: those below 0, 0, those above 0. What
// isn't listed holds as 2260 does.
var holds = map[rune][3]int{
	'<':    {1, 0, 0},
	0x2264: {1, 1, 0},
	'=':    {0, 1, 0},
	0x2265: {0, 1, 1},
	'>':    {0, 0, 1},
	0x2260: {1, 0, 1},
}

// wantHolds returns whether a comparison holds for a number of the sign.
func wantHolds(c rune, sign int) bool {
	if _, ok := holds[c]; !ok {
		c = 0x2260
	}
	return holds[c][sign+1] == 1
}

func TestCompare(t *testing.T) {
	everyRune(func(c rune) {
		for _, x := range []struct{ n, sign int }{
			{math.MinInt, -1}, {math.MinInt + 1, -1}, {math.MinInt32, -1}, {math.MinInt32 - 1, -1}, {-256, -1}, {-2, -1}, {-1, -1}, {0, 0},
			{1, 1}, {2, 1}, {256, 1}, {math.MaxInt32, 1}, {1 << 32, 1}, {math.MaxInt - 1, 1}, {math.MaxInt, 1},
		} {
			if got, want := Compare(c, x.n), wantHolds(c, x.sign); got != want {
				t.Fatalf("Compare(%x, %d): %v", c, x.n, got)
			}
		}
	})
}

// ascending are numbers in their order.
func ascending() []string {
	long := "1" + strings.Repeat("0", 700)
	return []string{
		"-" + long, "-18446744073709551616", "-9223372036854775808", "-4294967296", "-2", "-3/2", "-1", "-2/3", "-1/2", "-1/3", "-1/4294967296", "-1/" + long,
		"0", "1/" + long, "1/18446744073709551616", "1/4294967296", "1/3", "1/2", "2/3", "1", "4294967297/4294967296", "3/2", "2", "7/3",
		"4294967295", "4294967296", "9223372036854775807", "9223372036854775808", "18446744073709551615", "18446744073709551616", long + "/3", long,
	}
}

// truthText returns a truth value as digits.
func truthText(yes bool) string {
	if yes {
		return "1"
	}
	return "0"
}

// TestComparisons: of all pairs of numbers, also where they have more limbs than are
// allowed.
func TestComparisons(t *testing.T) {
	for i, a := range ascending() {
		for j, b := range ascending() {
			sign := max(-1, min(1, i-j))
			for _, c := range comparisons {
				for _, limbs := range []int{1, 64} {
					check(t, c, must(t, a), must(t, b), limbs, truthText(wantHolds(c, sign)), api.OK)
				}
			}
		}
	}
}

// TestTruths: the truth functions of all pairs of truth values.
func TestTruths(t *testing.T) {
	for c, want := range map[rune][4]string{
		0x2227: {"0", "0", "0", "1"},
		0x2228: {"0", "1", "1", "1"},
		0x2372: {"1", "1", "1", "0"},
		0x2371: {"1", "0", "0", "0"},
	} {
		for i, text := range want {
			for _, limbs := range []int{1, 2, 63, 64} {
				check(t, c, ratio.From(i/2), ratio.From(i%2), limbs, text, api.OK)
			}
		}
	}
}

// TestTruthsOfOthers: of other numbers they are ErrDomain, on either side, also where
// these have more limbs than are allowed.
func TestTruthsOfOthers(t *testing.T) {
	for _, c := range truths {
		for _, a := range ascending() {
			for _, b := range append(ascending(), "4294967297", "18446744073709551617") {
				if (a == "0" || a == "1") && (b == "0" || b == "1") {
					continue
				}
				check(t, c, must(t, a), must(t, b), 1, "0", api.ErrDomain)
				check(t, c, must(t, b), must(t, a), 64, "0", api.ErrDomain)
			}
		}
	}
}

// TestZeroValue: the zero value is the number 0, on either side.
func TestZeroValue(t *testing.T) {
	zero := ratio.From(0)
	for _, c := range append(functions(), '~', 0) {
		for _, text := range []string{"0", "1", "-1", "5", "-7/2"} {
			x := must(t, text)
			y, e := Two(c, zero, x, 64)
			check(t, c, ratio.Rat{}, x, 64, tell(y), e)
			y, e = Two(c, x, zero, 64)
			check(t, c, x, ratio.Rat{}, 64, tell(y), e)
		}
	}
}

// TestNumbersStay: no call changes the numbers that it is given.
func TestNumbersStay(t *testing.T) {
	texts := append(ascending(), "5", "40")
	for _, a := range texts {
		for _, b := range texts {
			x, y := must(t, a), must(t, b)
			for _, c := range functions() {
				Two(c, x, y, 64)
				Two(c, x, y, 1)
			}
			if tell(x) != a || tell(y) != b {
				t.Fatalf("of %.30s and %.30s: they are %.30s and %.30s now", a, b, tell(x), tell(y))
			}
		}
	}
}

// TestOrderOfArguments: a comparison of the exchanged numbers is the opposite one, and
// sums and products don't hang on the order (P13.3).
func TestOrderOfArguments(t *testing.T) {
	opposite := map[rune]rune{'<': '>', '>': '<', 0x2264: 0x2265, 0x2265: 0x2264, '=': '=', 0x2260: 0x2260, '+': '+', 0xd7: 0xd7}
	texts := append(ascending(), "-7/3", "5", "355/113", "-355/113")
	for _, a := range texts {
		for _, b := range texts {
			x, y := must(t, a), must(t, b)
			for c, d := range opposite {
				for _, limbs := range []int{1, 2, 64} {
					z, e := Two(d, y, x, limbs)
					check(t, c, x, y, limbs, tell(z), e)
				}
			}
		}
	}
}
