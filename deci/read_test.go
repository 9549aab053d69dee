package deci

import (
	"math"
	"math/big"
	"regexp"
	"strconv"
	"strings"
	"testing"

	"typeball/ratio"
)

func TestRead(t *testing.T) {
	for _, x := range []struct{ text, want string }{
		{"0", "0"}, {"7", "7"}, {"12", "12"}, {"007", "7"}, {"000", "0"}, {"1234567890", "1234567890"}, {"98765432109876543210", "98765432109876543210"},
		{"¯7", "-7"}, {"¯0", "0"}, {"¯007", "-7"}, {"¯0.0", "0"}, {"¯0E5", "0"}, {"0E999", "0"}, {"0E¯999", "0"}, {"0.0E¯3", "0"},
		{"1.5", "3/2"}, {"¯1.5", "-3/2"}, {"3.50", "7/2"}, {"¯3.50", "-7/2"}, {"0.25", "1/4"}, {"00.250", "1/4"}, {"12.0", "12"}, {"1.000", "1"}, {"10.01", "1001/100"},
		{".5", "1/2"}, {"¯.5", "-1/2"}, {".0", "0"}, {".05", "1/20"}, {".50", "1/2"}, {".125", "1/8"},
		{"1E3", "1000"}, {"1E0", "1"}, {"1E00", "1"}, {"1E000", "1"}, {"1E003", "1000"}, {"1E03", "1000"}, {"1E10", "10000000000"}, {"¯2E2", "-200"}, {"12E1", "120"},
		{"25E¯2", "1/4"}, {"1E¯3", "1/1000"}, {"1E¯0", "1"}, {"1E¯003", "1/1000"}, {"¯25E¯2", "-1/4"}, {"1000E¯3", "1"}, {"5E¯1", "1/2"},
		{"1.5E1", "15"}, {"1.5E0", "3/2"}, {"1.5E3", "1500"}, {"1.5E¯1", "3/20"}, {".5E1", "5"}, {"¯.5E1", "-5"}, {".5E¯1", "1/20"}, {"¯.05E2", "-5"}, {"1.25E1", "25/2"}, {"0.001E3", "1"},
	} {
		l := []rune(x.text)
		a, next, ok := Read(l, 0)
		if !ok || next != len(l) || !same(a, must(t, x.want)) {
			t.Errorf("%q: %v, %d, %v", x.text, a.Num(), next, ok)
		}
	}
}

// refuses checks that nothing is read at an index, and that the results are zero values.
func refuses(t *testing.T, l []rune, at int) {
	t.Helper()
	if a, next, ok := Read(l, at); ok || next != 0 || !same(a, ratio.Rat{}) {
		t.Errorf("%q at %d: %v, %d, %v", string(l), at, a.Num(), next, ok)
	}
}

func TestReadRefuses(t *testing.T) {
	for _, s := range []string{
		"", " ", " 5", "a", "E", "E5", "e5", "-5", "+5", ",5", "/", ":", "'5'", "\u2212" + "5", "\u02c9" + "5",
		"¯", "¯¯", "¯¯5", "¯ 5", "¯a", "¯E5", "¯E", "¯-5", "¯+5",
		".", "..", "..5", ". 5", ".a", ".E5", ".¯5", "¯.", "¯..5", "¯.a", "¯.E5", "¯. 5", "¯.¯5",
		"1.", "1. ", "1. 5", "1..", "1..5", "1.a", "1.E5", "1.¯5", "12.E", "¯1.", "0.",
		"1E", "1E ", "1E 5", "1Ea", "1EE5", "1E.5", "1E+5", "1E-5", "1.5E", ".5E", "¯1E", "1E¯", "1E¯ 5", "1E¯¯5", "1E¯a", "1E¯.5", "¯.5E¯",
		"1E1000", "1E0000", "1E0001", "1E9999", "1E10000", "1E¯1000", "1E¯0001", "0E1000", "0E0000", "1.5E1234", ".5E1234", "¯.5E¯1234", "1E12345678901234567890",
		"\u0665", "\uff15", "\u00b2", "1.\uff15", "1.\u0665", "1E\uff15", "1E¯\u0665", "¯\uff15", "\x00", "\x05",
	} {
		refuses(t, []rune(s), 0)
	}
	refuses(t, nil, 0)
	refuses(t, []rune{-1, '5'}, 0)
	refuses(t, []rune{math.MaxInt32, '5'}, 0)
	refuses(t, []rune{math.MinInt32, '5'}, 0)
}

// TestReadEnds: the number ends where something else begins.
func TestReadEnds(t *testing.T) {
	for _, x := range []struct {
		text, want string
		next       int
	}{
		{"12 34", "12", 2}, {"12a", "12", 2}, {"12e5", "12", 2}, {"12,5", "12", 2}, {"12-5", "12", 2}, {"12+5", "12", 2}, {"12/5", "12", 2}, {"12:5", "12", 2}, {"12'", "12", 2}, {"12)", "12", 2}, {"12_5", "12", 2},
		{"12¯5", "12", 2}, {"12¯", "12", 2}, {"¯12¯5", "-12", 3}, {"12\uff15", "12", 2}, {"12\u0665", "12", 2}, {"12\x00", "12", 2}, {"12\u2190", "12", 2},
		{"1.5.5", "3/2", 3}, {"1.5.", "3/2", 3}, {"1.5..5", "3/2", 3}, {"1.5 .5", "3/2", 3}, {"1.5¯5", "3/2", 3}, {"1.5a", "3/2", 3}, {"1.5e5", "3/2", 3}, {".5.5", "1/2", 2}, {".5.", "1/2", 2}, {"¯.5.5", "-1/2", 3},
		{"1E5.5", "100000", 3}, {"1E5.", "100000", 3}, {"1E5E5", "100000", 3}, {"1E5E", "100000", 3}, {"1E5¯", "100000", 3}, {"1E5¯5", "100000", 3}, {"1E5 5", "100000", 3}, {"1E2a", "100", 3}, {"1E2e", "100", 3},
		{"1E002.", "100", 5}, {"1E002¯", "100", 5}, {"1E002E", "100", 5}, {"1E002\uff15", "100", 5}, {"1E¯2E2", "1/100", 4}, {"1E¯002¯2", "1/100", 6}, {"1.5E2.5", "150", 5}, {"0\u2373" + "0", "0", 1},
	} {
		a, next, ok := Read([]rune(x.text), 0)
		if !ok || next != x.next || !same(a, must(t, x.want)) {
			t.Errorf("%q: %v, %d, %v", x.text, a.Num(), next, ok)
		}
	}
}

// TestReadAmid: a number is read from any index on, whatever stands ahead of it.
func TestReadAmid(t *testing.T) {
	for _, x := range []struct {
		text string
		at   int
		want string
		next int
	}{
		{"12345", 2, "345", 5}, {"12345", 4, "5", 5}, {"1.5", 1, "1/2", 3}, {"1.5", 2, "5", 3}, {"¯12", 1, "12", 3}, {"1E25", 2, "25", 4}, {"1E¯25", 2, "-25", 5},
		{"x\u2190¯1.5E1,3", 2, "-15", 8}, {"  12  ", 2, "12", 4}, {"1 2 3", 2, "2", 3}, {"1 2 3", 4, "3", 5}, {"\u2373.5]", 1, "1/2", 3}, {"1..5", 2, "1/2", 4}, {"1E1000", 2, "1000", 6}, {"1E1000", 3, "0", 6}, {"¯¯5", 1, "-5", 3},
	} {
		a, next, ok := Read([]rune(x.text), x.at)
		if !ok || next != x.next || !same(a, must(t, x.want)) {
			t.Errorf("%q at %d: %v, %d, %v", x.text, x.at, a.Num(), next, ok)
		}
	}
	for _, s := range []string{"", "5", "12", "1.5", "¯", "."} {
		n := len([]rune(s))
		for _, at := range []int{-1, -n - 1, n, n + 1, n + 100, math.MinInt, math.MaxInt} {
			refuses(t, []rune(s), at)
		}
	}
	refuses(t, []rune("1E5"), 1)
	refuses(t, []rune("1 5"), 1)
	refuses(t, []rune("12.a"), 2)
}

func TestReadMostDigits(t *testing.T) {
	for _, digit := range []string{"7", "0", "9"} {
		for _, sign := range []string{"", "¯"} {
			for _, behind := range []string{"", "E999", "E¯999", "E0"} {
				for places := range 201 {
					s := sign + strings.Repeat(digit, 200-places) + "." + strings.Repeat(digit, places)
					s = strings.TrimSuffix(s, ".") + behind
					l := []rune(s)
					if a, next, ok := Read(l, 0); !ok || next != len(l) || !same(a, must(t, s)) {
						t.Fatalf("%s: %v, %d, %v", s, a.Num(), next, ok)
					}
				}
				for places := range 202 {
					s := sign + strings.Repeat(digit, 201-places) + "." + strings.Repeat(digit, places)
					refuses(t, []rune(strings.TrimSuffix(s, ".")+behind), 0)
				}
			}
		}
	}
	for _, n := range []int{202, 400, 2000, 2001, 5000} {
		refuses(t, []rune(strings.Repeat("7", n)), 0)
		refuses(t, []rune("7."+strings.Repeat("7", n)), 0)
		refuses(t, []rune(strings.Repeat("0", n)+"1"), 0)
	}
	// From a later index on there are fewer.
	l := []rune(strings.Repeat("7", 201))
	if a, next, ok := Read(l, 1); !ok || next != 201 || !same(a, must(t, strings.Repeat("7", 200))) {
		t.Error("the last 200 of 201:", next, ok)
	}
}

func TestReadExponents(t *testing.T) {
	for e := range 1000 {
		power := tenPower(e)
		up, down := ratOf(t, power), ratOf(t, new(big.Rat).Inv(power))
		digits := strconv.Itoa(e)
		for len(digits) <= 3 {
			for sign, want := range map[string]ratio.Rat{"": up, string(High): down} {
				l := []rune("1E" + sign + digits)
				if a, next, ok := Read(l, 0); !ok || next != len(l) || !same(a, want) {
					t.Fatalf("%s: %v, %d, %v", string(l), a.Num(), next, ok)
				}
			}
			digits = "0" + digits
		}
		refuses(t, []rune("1E"+digits), 0)
		refuses(t, []rune("1E"+string(High)+digits), 0)
	}
}

// TestReadAll: all short texts are read as a pattern of the chapter's has them.
func TestReadAll(t *testing.T) {
	pattern := regexp.MustCompile(`^¯?([0-9]*)(\.[0-9]*)?(E¯?[0-9]*)?`)
	signs := []string{"0", "5", ".", "E", "¯", " "}
	texts := []string{""}
	for range 7 {
		var next []string
		for _, s := range texts {
			checkAgainst(t, pattern, s)
			for _, sign := range signs {
				next = append(next, s+sign)
			}
		}
		texts = next
	}
}

// checkAgainst checks what is read of a text.
func checkAgainst(t *testing.T, pattern *regexp.Regexp, s string) {
	t.Helper()
	parts := pattern.FindStringSubmatch(s)
	number, digits, places, power := parts[0], parts[1], parts[2], strings.TrimPrefix(strings.TrimPrefix(parts[3], "E"), "¯")
	ok := digits+strings.TrimPrefix(places, ".") != "" && places != "." && (parts[3] == "" || power != "" && len(power) <= 3)
	if !ok {
		refuses(t, []rune(s), 0)
		return
	}
	want := bigOf(t, number)
	a, next, ok := Read([]rune(s), 0)
	if !ok || next != len([]rune(number)) || !same(a, ratOf(t, want)) {
		t.Fatalf("%q: %v, %d, %v", s, a.Num(), next, ok)
	}
}
