package glyph

import (
	"math"
	"slices"
	"strconv"
	"strings"
	"testing"
	"unicode/utf8"

	"typeball/api"
)

// listed holds the signs as the document lists them: signs of ASCII as they are,
// others by their code points, each between blanks.
var listed = []struct {
	kind  int
	signs string
}{
	{1, "20"},
	{2, "a b c d e f g h i j k l m n o p q r s t u v w x y z"},
	{2, "A B C D E F G H I J K L M N O P Q R S T U V W X Y Z _ 2206"},
	{3, "0 1 2 3 4 5 6 7 8 9 AF"},
	{4, "+ - D7 F7 2308 230A | * ! < 2264 = 2265 > 2260 2227 2228 2372 2371 ~ 235F 25CB"},
	{5, "2374 , 233D 2296 2349 2191 2193 2373 220A 234B 2352 22A4 22A5 ? 2339 234E 2355"},
	{6, "/ 233F \\ 2340"},
	{7, "( ) [ ] ; ' . : 2190 2192 2218 2395 235E 2207 235D"},
	{8, "\" # $ % & @ ^ ` { } A8 222A 2229 2261 2262 2282 2283 22A2 22A3 2375 237A 236A 2378 25CA"},
}

// kinds returns the kind of each sign that the document lists.
func kinds(t *testing.T) map[rune]int {
	t.Helper()
	all := map[rune]int{}
	for _, row := range listed {
		for _, sign := range strings.Fields(row.signs) {
			c := rune(sign[0])
			if len(sign) > 1 {
				n, err := strconv.ParseUint(sign, 16, 32)
				if err != nil {
					t.Fatal(err)
				}
				c = rune(n)
			}
			if all[c] != 0 {
				t.Fatalf("%U is listed twice", c)
			}
			all[c] = row.kind
		}
	}
	return all
}

// clone returns signs with spare room behind them that holds signs, too.
func clone(l []rune) []rune {
	room := append(slices.Clone(l), 'x', ' ', 'y')
	return room[:len(l)]
}

// checkKept reports an error if signs, or those in the room behind them, are no
// longer those of clone.
func checkKept(t *testing.T, name string, l, was []rune) {
	t.Helper()
	if !slices.Equal(l, was) || string(l[len(l):len(l)+3]) != "x y" {
		t.Errorf("%s of %q: the argument is now %q", name, string(was), string(l[:len(l)+3]))
	}
}

func TestConstants(t *testing.T) {
	got := []int{None, Blank, Letter, Digit, Scalar, Mixed, Slash, Mark, Other}
	if !slices.Equal(got, []int{0, 1, 2, 3, 4, 5, 6, 7, 8}) {
		t.Error("the kinds are", got)
	}
	if High != 0xaf {
		t.Errorf("High is %U", High)
	}
}

// P5.1: the kind of every sign that the chapter lists, and None for all else.
func TestKind(t *testing.T) {
	want := kinds(t)
	if len(want) != 1+26+26+2+11+22+17+4+15+24 {
		t.Fatal("the test lists", len(want), "signs")
	}
	for c := rune(-300); c <= utf8.MaxRune+300; c++ {
		if k := Kind(c); k != want[c] {
			t.Errorf("Kind(%U) = %d, want %d", c, k, want[c])
		}
	}
}

func TestKindFarOff(t *testing.T) {
	for c := range kinds(t) {
		for _, d := range []rune{c | math.MinInt32, -c, ^c, c + 1<<8<<16, c + 1<<16, c + 1<<21} {
			if k := Kind(d); k != None {
				t.Errorf("Kind(%d) = %d, want None", d, k)
			}
		}
	}
	for _, c := range []rune{math.MinInt32, math.MinInt32 + 1, math.MaxInt32, math.MaxInt32 - 1, -1, 0xd800, 0xdfff, 0xfffd, 0x10ffff, 0x110000} {
		if k := Kind(c); k != None {
			t.Errorf("Kind(%d) = %d, want None", c, k)
		}
	}
}

// P5.1: Word holds for letters and for 0 to 9, and for nothing else.
func TestWord(t *testing.T) {
	const words = "ABCDEFGHIJKLMNOPQRSTUVWXYZabcdefghijklmnopqrstuvwxyz0123456789_\u2206"
	for c := rune(-300); c <= utf8.MaxRune+300; c++ {
		want := c >= 0 && c != utf8.RuneError && strings.ContainsRune(words, c)
		if c > utf8.MaxRune {
			want = false
		}
		if got := Word(c); got != want {
			t.Errorf("Word(%U) = %v", c, got)
		}
	}
	if Word(High) {
		t.Error("Word of High")
	}
	for _, c := range []rune{math.MinInt32, math.MinInt32 + 'a', math.MaxInt32, -'a'} {
		if Word(c) {
			t.Errorf("Word(%d) = true", c)
		}
	}
}

// P5.1: the names.
func TestName(t *testing.T) {
	const all24 = "abcdefghijklmnopqrstuvwx"
	if api.MaxName != len(all24) {
		t.Fatal("the most characters of a name are", api.MaxName)
	}
	tests := []struct {
		text string
		want bool
	}{
		{"", false},
		{"a", true}, {"z", true}, {"A", true}, {"Z", true}, {"_", true}, {"\u2206", true},
		{"0", false}, {"9", false}, {"\u00af", false}, {" ", false}, {"+", false}, {"\u2374", false}, {"/", false}, {"\u2395", false}, {"@", false}, {"\u20ac", false},
		{"a1", true}, {"1a", false}, {"9", false}, {"_0", true}, {"\u22069", true}, {"S\u2206F1", true},
		{"A\u00af", false}, {"A\u00af1", false}, {"\u00af1", false}, {"\u00afA", false},
		{"a b", false}, {" a", false}, {"a ", false}, {"a\t", false}, {"a.b", false}, {"a-b", false}, {"\u2395IO", false}, {"a\u2395", false}, {"\u2207F", false},
		{all24[:23], true}, {all24, true}, {all24 + "y", false}, {all24 + "yz", false},
		{"a" + strings.Repeat("9", 23), true}, {"a" + strings.Repeat("9", 24), false},
		{strings.Repeat("\u2206", 24), true}, {strings.Repeat("\u2206", 25), false},
		{all24[:23] + "\u00af", false}, {all24[:23] + " ", false}, {"0" + all24[:23], false},
		{all24[:12] + "\u00e9", false}, {all24[:12] + "\u2375", false},
		{strings.Repeat("a", 5000), false},
	}
	for _, test := range tests {
		l := clone([]rune(test.text))
		if got := Name(l); got != test.want {
			t.Errorf("Name(%q) = %v", test.text, got)
		}
		checkKept(t, "Name", l, []rune(test.text))
	}
	if Name(nil) {
		t.Error("Name(nil) = true")
	}
	for _, c := range []rune{-1, math.MinInt32, math.MaxInt32, 0xd800, 0x110000} {
		if Name([]rune{c}) || Name([]rune{'a', c}) {
			t.Errorf("Name with %d = true", c)
		}
	}
}

// The first sign of a name and those behind it, every one of the signs in turn.
func TestNameSigns(t *testing.T) {
	for c, kind := range kinds(t) {
		if got := Name([]rune{c}); got != (kind == Letter) {
			t.Errorf("Name(%q) = %v", c, got)
		}
		within := kind == Letter || kind == Digit && c != High
		if got := Name([]rune{'a', c, 'b'}); got != within {
			t.Errorf("Name(a%cb) = %v", c, got)
		}
		if got := Name([]rune{'a', c}); got != within {
			t.Errorf("Name(a%c) = %v", c, got)
		}
	}
}
