package deci

import (
	"math"
	"math/big"
	"slices"
	"strconv"
	"strings"
	"testing"

	"typeball/nat"
	"typeball/ratio"
	"typeball/whole"
)

// wholeOf returns another implementation's integer.
func wholeOf(n *big.Int) whole.Int {
	var size nat.Nat
	for _, word := range new(big.Int).Abs(n).Bytes() {
		size = size.Shl(8).Add(nat.Of(uint64(word)))
	}
	return whole.Of(n.Sign() < 0, size)
}

// ratOf returns another implementation's number.
func ratOf(t *testing.T, b *big.Rat) ratio.Rat {
	t.Helper()
	a, ok := ratio.New(wholeOf(b.Num()), wholeOf(b.Denom()))
	if !ok {
		t.Fatalf("%v: false", b)
	}
	return a
}

// bigOf returns the number that another implementation reads, with High for its sign.
func bigOf(t *testing.T, s string) *big.Rat {
	t.Helper()
	b, ok := new(big.Rat).SetString(strings.ReplaceAll(s, string(High), "-"))
	if !ok {
		t.Fatalf("%q: false", s)
	}
	return b
}

// must returns the number that another implementation reads: digits, a point, an
// exponent, or a line between two integers.
func must(t *testing.T, s string) ratio.Rat {
	t.Helper()
	return ratOf(t, bigOf(t, s))
}

// tenPower returns 10 to the power n as another implementation has it.
func tenPower(n int) *big.Rat {
	power := new(big.Rat).SetInt(new(big.Int).Exp(big.NewInt(10), big.NewInt(int64(max(n, -n))), nil))
	if n < 0 {
		power.Inv(power)
	}
	return power
}

// same reports whether two numbers are the same one.
func same(a, b ratio.Rat) bool { return a.Num() == b.Num() }

func TestConstants(t *testing.T) {
	if High != 0xaf || MostDigits != 200 {
		t.Errorf("%x, %d", High, MostDigits)
	}
}

func TestBegins(t *testing.T) {
	for _, x := range []struct {
		text string
		want string
	}{
		{"0", "y"}, {"9", "y"}, {"5", "y"}, {"¯", "y"}, {"¯5", "yy"}, {"¯a", "yn"}, {"¯¯", "yy"},
		{".", "n"}, {".5", "yy"}, {"5.", "yn"}, {"5.5", "yyy"}, {"..5", "nyy"}, {".a5", "nny"}, {". 5", "nny"}, {".¯5", "nyy"}, {".E5", "nny"},
		{" 5", "ny"}, {"E5", "ny"}, {"-5", "ny"}, {"+5", "ny"}, {",5", "ny"}, {"/", "n"}, {":", "n"}, {"a", "n"}, {"'", "n"},
		{"\u0660", "n"}, {"\uff15", "n"}, {"\u00b2", "n"}, {".\u0665", "nn"}, {".\uff15", "nn"}, {"\u02c9", "n"}, {"\u203e", "n"}, {"\x00", "n"}, {"\x05", "n"},
	} {
		l := []rune(x.text)
		for i, want := range x.want {
			if got := Begins(l, i); got != (want == 'y') {
				t.Errorf("%q at %d: %v", x.text, i, got)
			}
		}
	}
}

func TestBeginsOutside(t *testing.T) {
	for _, s := range []string{"", "5", "¯", ".", "5.", ".5", "123"} {
		n := len([]rune(s))
		for _, at := range []int{-1, -2, -n, -n - 1, n, n + 1, n + 100, math.MinInt, math.MaxInt, math.MaxInt - 1} {
			if at == 0 && n > 0 {
				continue
			}
			if Begins([]rune(s), at) {
				t.Errorf("%q at %d", s, at)
			}
		}
	}
	for _, at := range []int{-1, 0, 1} {
		if Begins(nil, at) {
			t.Errorf("none at %d", at)
		}
	}
}

// TestSpare: what stands behind a list, in its spare capacity, is none of it.
func TestSpare(t *testing.T) {
	l := []rune("5.5E55")
	if Begins(l[:0], 0) || Begins(l[:2], 1) || Begins(l[:2], 2) {
		t.Error("Begins")
	}
	for _, n := range []int{0, 2, 4} {
		if _, _, ok := Read(l[:n], 0); ok {
			t.Errorf("Read of %q", string(l[:n]))
		}
	}
	for n, want := range map[int]string{1: "5", 3: "11/2", 5: "550000"} {
		if a, next, ok := Read(l[:n], 0); !ok || next != n || !same(a, must(t, want)) {
			t.Errorf("Read of %q: %v, %d, %v", string(l[:n]), a.Num(), next, ok)
		}
	}
	if string(l) != "5.5E55" {
		t.Error("the list has changed")
	}
}

func TestListStays(t *testing.T) {
	l := []rune("x¯12.50E¯3 7")
	kept := slices.Clone(l)
	a, _, ok := Read(l, 1)
	Begins(l, 1)
	if !ok || !slices.Equal(l, kept) {
		t.Errorf("%q, %v", string(l), ok)
	}
	for i := range l {
		l[i] = '9'
	}
	if !same(a, must(t, "-1/80")) {
		t.Error("the number has changed:", a.Num())
	}
}

func TestShowZero(t *testing.T) {
	half := must(t, "1/2")
	for i, zero := range []ratio.Rat{{}, ratio.From(0), ratio.From(0).Minus(), half.Plus(half.Minus())} {
		for _, many := range []int{math.MinInt, -1, 0, 1, 2, 10, 400, math.MaxInt} {
			if got := Show(zero, many); got != "0" {
				t.Errorf("0, form %d, with %d: %s", i, many, got)
			}
		}
	}
}

// TestShow: the examples of each way in which a number is written.
func TestShow(t *testing.T) {
	for _, x := range []struct {
		number string
		many   int
		want   string
	}{
		{"2/3", 4, "0.6667"}, {"12345", 3, "1.23E4"}, {"-1/8", 10, "¯0.125"},
		{"1", 1, "1"}, {"-1", 1, "¯1"}, {"1", 10, "1"}, {"7", 2, "7"}, {"12", 2, "12"}, {"-12", 5, "¯12"}, {"10", 2, "10"}, {"10", 10, "10"},
		{"100", 3, "100"}, {"100", 10, "100"}, {"120", 3, "120"}, {"-120", 4, "¯120"}, {"1000000", 7, "1000000"}, {"1000000", 10, "1000000"},
		{"1.5", 2, "1.5"}, {"1.5", 10, "1.5"}, {"-1.5", 10, "¯1.5"}, {"12.34", 4, "12.34"}, {"123.4", 4, "123.4"}, {"123.45", 4, "123.5"}, {"100.25", 10, "100.25"},
		{"22/7", 10, "3.142857143"}, {"1/3", 1, "0.3"}, {"-1/3", 3, "¯0.333"}, {"100/3", 2, "33"}, {"100/3", 3, "33.3"}, {"1000/3", 2, "3.3E2"}, {"100/3", 1, "3E1"},
		{"0.1", 1, "0.1"}, {"0.25", 5, "0.25"}, {"0.05", 5, "0.05"}, {"1/30", 2, "0.033"}, {"-1/30", 1, "¯0.03"}, {"0.001", 1, "0.001"}, {"0.00123", 2, "0.0012"},
		{"12", 1, "1E1"}, {"10", 1, "1E1"}, {"-10", 1, "¯1E1"}, {"99", 2, "99"}, {"123456789012", 10, "1.23456789E11"}, {"1E30", 10, "1E30"}, {"-1E999", 10, "¯1E999"}, {"1E1000", 10, "1E1000"},
		{"1E-30", 10, "1E¯30"}, {"-1.25E-30", 10, "¯1.25E¯30"}, {"1E-1000", 10, "1E¯1000"}, {"1/3000000000", 3, "3.33E¯10"},
	} {
		if got := Show(must(t, x.number), x.many); got != x.want {
			t.Errorf("%s with %d: %s", x.number, x.many, got)
		}
	}
}

func TestShowWithNone(t *testing.T) {
	for _, many := range []int{0, -1, -2, -10, math.MinInt, math.MinInt + 1} {
		for number, want := range map[string]string{
			"7": "7", "12": "1E1", "-15": "¯2E1", "2/3": "0.7", "-1/3": "¯0.3", "9.5": "1E1", "0.95": "1", "9.4": "9", "0.000001": "0.000001", "0.0000001": "1E¯7",
		} {
			if got := Show(must(t, number), many); got != want || got != Show(must(t, number), 1) {
				t.Errorf("%s with %d: %s", number, many, got)
			}
		}
	}
}

func TestShowRounded(t *testing.T) {
	for _, x := range []struct {
		number string
		many   int
		want   string
	}{
		// Halves, and what is a little off them: up is away from 0.
		{"2.5", 1, "3"}, {"3.5", 1, "4"}, {"0.5", 1, "0.5"}, {"-2.5", 1, "¯3"}, {"-3.5", 1, "¯4"}, {"0.25", 1, "0.3"}, {"-0.25", 1, "¯0.3"}, {"0.125", 2, "0.13"}, {"0.135", 2, "0.14"},
		{"25", 1, "3E1"}, {"-25", 1, "¯3E1"}, {"12.5", 2, "13"}, {"13.5", 2, "14"}, {"125", 2, "1.3E2"}, {"0.045", 1, "0.05"}, {"1E-7", 1, "1E¯7"}, {"2.5E-7", 1, "3E¯7"},
		{"2.49999999999", 1, "2"}, {"-2.49999999999", 1, "¯2"}, {"2.50000000001", 1, "3"}, {"249/100", 1, "2"}, {"251/100", 1, "3"}, {"1.2345", 4, "1.235"}, {"1.2344", 4, "1.234"}, {"1.2346", 4, "1.235"},
		{"1.00000000000000000025", 20, "1.0000000000000000003"}, {"1.00000000000000000024", 20, "1.0000000000000000002"}, {"12345678901234567850", 18, "1.23456789012345679E19"}, {"12345678901234567849", 18, "1.23456789012345678E19"},
		// Nines that are rounded up, to one more leading digit or not.
		{"9.5", 1, "1E1"}, {"9.4", 1, "9"}, {"-9.5", 1, "¯1E1"}, {"99", 1, "1E2"}, {"99.5", 2, "1E2"}, {"99.4", 2, "99"}, {"995", 2, "1E3"}, {"994", 2, "9.9E2"}, {"999", 2, "1E3"}, {"-999", 2, "¯1E3"},
		{"9.96", 2, "10"}, {"99.96", 3, "100"}, {"9.996", 3, "10"}, {"0.96", 1, "1"}, {"0.95", 1, "1"}, {"-0.95", 1, "¯1"}, {"0.94", 1, "0.9"}, {"0.0996", 2, "0.1"}, {"0.00995", 2, "0.01"},
		{"1.96", 2, "2"}, {"1.996", 3, "2"}, {"1.0996", 4, "1.1"}, {"129.96", 4, "130"}, {"1299.6", 4, "1300"}, {"12996", 4, "1.3E4"}, {"0.1299996", 6, "0.13"}, {"899.5", 3, "900"},
		{"999999999999999999999.5", 21, "1E21"}, {"99999999999999999999.95", 21, "100000000000000000000"}, {"999999999999999999.5", 18, "1E18"}, {"999999999999999999.4", 18, "999999999999999999"},
		// Trailing zeros, of the number and of what rounding leaves.
		{"1.50", 3, "1.5"}, {"1.500001", 4, "1.5"}, {"1.999", 3, "2"}, {"20.04", 3, "20"}, {"20.04", 4, "20.04"}, {"0.1000001", 3, "0.1"}, {"1200", 2, "1.2E3"}, {"1200.04", 4, "1200"}, {"1000", 2, "1E3"}, {"1001", 3, "1E3"}, {"-1001", 3, "¯1E3"},
		{"1000000000000000000000000000001", 30, "1E30"}, {"1.000000000000000000000000000001", 30, "1"}, {"1.000000000000000000000000000001", 31, "1.000000000000000000000000000001"},
	} {
		if got := Show(must(t, x.number), x.many); got != x.want {
			t.Errorf("%s with %d: %s", x.number, x.many, got)
		}
	}
}

// TestShowExponents: at the exponents where the way of writing changes.
func TestShowExponents(t *testing.T) {
	for _, x := range []struct {
		number string
		many   int
		want   string
	}{
		{"0.000001", 10, "0.000001"}, {"0.0000001", 10, "1E¯7"}, {"-0.000001", 10, "¯0.000001"}, {"-0.0000001", 10, "¯1E¯7"},
		{"0.00000123", 10, "0.00000123"}, {"0.000000123", 10, "1.23E¯7"}, {"0.0000099", 2, "0.0000099"}, {"0.00000099", 2, "9.9E¯7"},
		{"0.000000999", 2, "0.000001"}, {"0.000000995", 2, "0.000001"}, {"0.000000994", 2, "9.9E¯7"}, {"0.0000009999", 1, "0.000001"}, {"0.00000009999", 1, "1E¯7"},
		{"12345", 4, "1.235E4"}, {"12345", 5, "12345"}, {"12345", 6, "12345"}, {"10000", 4, "1E4"}, {"10000", 5, "10000"}, {"-10000", 4, "¯1E4"}, {"-10000", 5, "¯10000"},
		{"99999", 4, "1E5"}, {"99999", 5, "99999"}, {"99999.5", 5, "1E5"}, {"99999.5", 6, "99999.5"}, {"9999.5", 4, "1E4"}, {"9999.95", 5, "10000"},
		{"9999999999", 10, "9999999999"}, {"99999999999", 10, "1E11"}, {"10000000000", 10, "1E10"}, {"1234567890", 10, "1234567890"}, {"12345678901", 10, "1.23456789E10"},
	} {
		if got := Show(must(t, x.number), x.many); got != x.want {
			t.Errorf("%s with %d: %s", x.number, x.many, got)
		}
	}
	for many := 1; many <= 60; many++ {
		at, below := ratOf(t, tenPower(many)), ratOf(t, tenPower(many-1))
		if got := Show(at, many); got != "1E"+strconv.Itoa(many) {
			t.Errorf("1E%d with %d: %s", many, many, got)
		}
		if got := Show(below, many); got != "1"+strings.Repeat("0", many-1) {
			t.Errorf("1E%d with %d: %s", many-1, many, got)
		}
	}
}

// TestShowEndingEarly: many may be far beyond what a number has of digits.
func TestShowEndingEarly(t *testing.T) {
	for _, many := range []int{1000, 1 << 31, math.MaxInt32, math.MaxInt - 1, math.MaxInt} {
		for number, want := range map[string]string{
			"1": "1", "-1000000": "¯1000000", "1/8": "0.125", "-1/1024": "¯0.0009765625", "12345678901234567890123/8": "1543209862654320986265.375",
			"0.0000001": "1E¯7", "3/128000000": "2.34375E¯8", "1E300": "1" + strings.Repeat("0", 300),
		} {
			if got := Show(must(t, number), many); got != want {
				t.Errorf("%s with %d: %s", number, many, got)
			}
		}
	}
	if got := Show(must(t, "1/3"), 100000); got != "0."+strings.Repeat("3", 100000) {
		t.Error("1/3 with 100000")
	}
	if got := Show(must(t, "2/3"), 100000); got != "0."+strings.Repeat("6", 99999)+"7" {
		t.Error("2/3 with 100000")
	}
}

// shownDigits returns the first digits as another implementation has them: as one
// integer, with the exponent of the first one.
func shownDigits(b *big.Rat, many int) (*big.Int, int) {
	e := 0
	for b.Cmp(tenPower(e)) < 0 {
		e--
	}
	for b.Cmp(tenPower(e+1)) >= 0 {
		e++
	}
	scaled := new(big.Rat).Mul(b, tenPower(many-1-e))
	scaled.Add(scaled, big.NewRat(1, 2))
	digits := new(big.Int).Quo(scaled.Num(), scaled.Denom())
	if len(digits.String()) > many {
		e++
	}
	return digits, e
}

// shown returns what Show returns for another implementation's number.
func shown(b *big.Rat, many int) string {
	if b.Sign() == 0 {
		return "0"
	}
	sign := ""
	if b.Sign() < 0 {
		sign = string(High)
	}
	n, e := shownDigits(new(big.Rat).Abs(b), many)
	digits := strings.TrimRight(n.String(), "0")
	if e >= many || e < -6 {
		text := strings.TrimSuffix(digits[:1]+"."+digits[1:], ".") + "E" + strconv.Itoa(e)
		return sign + strings.ReplaceAll(text, "-", string(High))
	}
	if e < 0 {
		return sign + "0." + "00000"[:-e-1] + digits
	}
	for len(digits) < e+1 {
		digits += "0"
	}
	return sign + strings.TrimSuffix(digits[:e+1]+"."+digits[e+1:], ".")
}

// sample returns numbers of many sizes, among them all small fractions, and those
// beside powers of 10 and beside halves.
func sample() []*big.Rat {
	var all []*big.Rat
	for top := int64(-40); top <= 40; top++ {
		for bot := int64(1); bot <= 40; bot++ {
			all = append(all, big.NewRat(top, bot))
		}
	}
	for n := -12; n <= 24; n++ {
		for _, off := range []*big.Rat{new(big.Rat), tenPower(n - 1), tenPower(n - 3), tenPower(n - 7), tenPower(-9), big.NewRat(1, 3), big.NewRat(1, 2)} {
			for _, by := range []int64{1, 2, 5, 9, -25, 96} {
				b := new(big.Rat).Mul(tenPower(n), big.NewRat(by, 1))
				all = append(all, new(big.Rat).Add(b, off), new(big.Rat).Sub(b, off))
			}
		}
	}
	seed := uint64(12345)
	for range 400 {
		var parts [3]int64
		for i := range parts {
			seed = seed*6364136223846793005 + 1442695040888963407
			parts[i] = int64(seed>>33)>>(seed>>59) + 1
		}
		all = append(all, big.NewRat(parts[0]-parts[1], parts[2]))
	}
	return all
}

func TestShowAgainstAnother(t *testing.T) {
	for _, b := range sample() {
		a := ratOf(t, b)
		for _, many := range []int{1, 2, 3, 4, 5, 10, 17, 18, 19, 36, 37, 60} {
			if got, want := Show(a, many), shown(b, many); got != want {
				t.Fatalf("%v with %d: %s, not %s", b, many, got, want)
			}
		}
	}
}

// TestShowLong: numbers with many limbs above and below.
func TestShowLong(t *testing.T) {
	long := new(big.Int).Exp(big.NewInt(7), big.NewInt(700), nil)
	near := new(big.Int).Exp(big.NewInt(10), big.NewInt(600), nil)
	for _, b := range []*big.Rat{
		new(big.Rat).SetInt(long), new(big.Rat).SetFrac(big.NewInt(1), long), new(big.Rat).SetFrac(long, near), new(big.Rat).SetFrac(near, long),
		new(big.Rat).SetFrac(new(big.Int).Add(near, big.NewInt(1)), near), new(big.Rat).SetFrac(new(big.Int).Sub(near, big.NewInt(1)), near),
		new(big.Rat).SetFrac(near, new(big.Int).Sub(near, big.NewInt(1))), new(big.Rat).SetFrac(big.NewInt(-5), new(big.Int).Add(near, big.NewInt(1))),
	} {
		for _, many := range []int{1, 10, 200, 591, 592, 593, 599, 600, 601, 602} {
			if got, want := Show(ratOf(t, b), many), shown(b, many); got != want {
				t.Errorf("%v with %d: %s, not %s", b, many, got, want)
			}
		}
	}
}

// readAgain checks that what Show returns is read to its end, as the number.
func readAgain(t *testing.T, a ratio.Rat, many int) {
	t.Helper()
	l := []rune(Show(a, many))
	if b, next, ok := Read(l, 0); !ok || next != len(l) || !same(a, b) {
		t.Fatalf("%v with %d: %q, %d, %v", a.Num(), many, string(l), next, ok)
	}
}

// TestReadAgain: a number with at most many digits is read again as it was (P4.4).
func TestReadAgain(t *testing.T) {
	digits := []string{"0", "1", "5", "9", "10", "12", "95", "99", "101", "125", "999", "1001", "9995", "123456789", "999999999", "314159265358979323846", strings.Repeat("9", 60), "1" + strings.Repeat("0", 58) + "7"}
	for _, s := range digits {
		for _, sign := range []string{"", "-"} {
			for _, e := range []int{-900, -300, -100, -20, -12, -9, -8, -7, -6, -5, -4, -3, -2, -1, 0, 1, 2, 3, 7, 9, 10, 11, 20, 100, 300, 900} {
				a := ratOf(t, new(big.Rat).Mul(bigOf(t, sign+s), tenPower(e)))
				for _, more := range []int{0, 1, 2, 10} {
					readAgain(t, a, len(s)+more)
				}
			}
		}
	}
	for _, e := range []int{999, 998, -999, -998} {
		readAgain(t, ratOf(t, tenPower(e)), 10)
		readAgain(t, ratOf(t, tenPower(e)).Minus(), 1)
	}
	readAgain(t, must(t, strings.Repeat("7", 200)), 200)
	readAgain(t, must(t, "-7."+strings.Repeat("3", 199)), 200)
	readAgain(t, must(t, strings.Repeat("7", 200)+"E300"), 200)
	readAgain(t, must(t, strings.Repeat("7", 200)+"E-700"), 200)
}

// TestShowRoundsOnce: what was shown shortened is shown the same again.
func TestShowRoundsOnce(t *testing.T) {
	for _, b := range sample() {
		for _, many := range []int{1, 3, 10} {
			text := Show(ratOf(t, b), many)
			if a, _, ok := Read([]rune(text), 0); !ok || Show(a, many) != text {
				t.Fatalf("%v with %d: %s", b, many, text)
			}
		}
	}
}
