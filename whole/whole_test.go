package whole

import (
	"math"
	"math/big"
	"slices"
	"strconv"
	"strings"
	"testing"

	"typeball/nat"
)

// edgeSizes are the absolute values at which signs, carries and bounds go wrong.
var edgeSizes = []string{
	"0", "1", "2", "3", "5", "7", "10",
	"2147483647", "2147483648", "4294967295", "4294967296", "4294967297",
	"9223372036854775807", "9223372036854775808", "9223372036854775809",
	"18446744073709551615", "18446744073709551616", "18446744073709551617",
	"340282366920938463463374607431768211455", "340282366920938463463374607431768211456",
	"123456789012345678901234567890123456789012345678901234567890",
	"1" + strings.Repeat("0", 300),
	strings.Repeat("9", 600),
}

// fewEdges are numbers for tests that go through triples.
var fewEdges = []string{"0", "1", "-1", "2", "-7", "4294967296", "-4294967295", "18446744073709551616", "-18446744073709551616"}

// must reads digits, with a minus ahead of a number below 0.
func must(t *testing.T, s string) Int {
	t.Helper()
	digits, neg := strings.CutPrefix(s, "-")
	n, ok := nat.Parse(digits)
	if !ok {
		t.Fatalf("Parse(%q): false", digits)
	}
	return Of(neg, n)
}

// edgeNumbers returns the edges with both signs.
func edgeNumbers(t *testing.T) []Int {
	t.Helper()
	var numbers []Int
	for _, s := range edgeSizes {
		numbers = append(numbers, must(t, s), must(t, "-"+s))
	}
	return append(numbers, Int{})
}

// bigOf returns a number as another implementation has it.
func bigOf(a Int) *big.Int {
	n, _ := new(big.Int).SetString(a.Nat.Text(), 10)
	if a.minus {
		n.Neg(n)
	}
	return n
}

// holds reports whether a number is another implementation's, and tells so by all
// that tells of its sign and size.
func holds(a Int, n *big.Int) bool {
	size := new(big.Int).Abs(n)
	return a.Size().Text() == size.String() && a.Text() == size.String() &&
		a.Sign() == n.Sign() && a.Neg() == (n.Sign() < 0) && a.minus == a.Neg()
}

// bare reports whether a number is 0 without a sign.
func bare(a Int) bool { return !a.minus && a.Nat.Zero() }

func TestOf(t *testing.T) {
	for _, x := range []struct {
		neg  bool
		n    uint64
		want int
	}{
		{false, 0, 0}, {true, 0, 0}, {false, 1, 1}, {true, 1, -1}, {false, 12, 12}, {true, 12, -12},
		{false, math.MaxInt64, math.MaxInt64}, {true, math.MaxInt64, -math.MaxInt64},
	} {
		if a := Of(x.neg, nat.Of(x.n)); !holds(a, big.NewInt(int64(x.want))) {
			t.Errorf("Of(%v, %d): %s", x.neg, x.n, a.Digits("-"))
		}
	}
	for _, s := range edgeSizes {
		n, _ := nat.Parse(s)
		want, _ := new(big.Int).SetString(s, 10)
		if a := Of(false, n); !holds(a, want) {
			t.Errorf("Of(false, %s): %s", s, a.Digits("-"))
		}
		if a := Of(true, n); !holds(a, want.Neg(want)) {
			t.Errorf("Of(true, %s): %s", s, a.Digits("-"))
		}
	}
}

func TestFrom(t *testing.T) {
	for _, n := range []int{
		0, 1, -1, 2, -2, 9, -10, 1 << 31, -1 << 31, 1<<32 - 1, 1 << 32, -1<<32 - 1,
		math.MaxInt, math.MaxInt - 1, -math.MaxInt, math.MinInt,
	} {
		a := From(n)
		if !holds(a, big.NewInt(int64(n))) {
			t.Errorf("From(%d): %s", n, a.Digits("-"))
		}
		if back, ok := a.Int(); !ok || back != n {
			t.Errorf("From(%d): back %d, %v", n, back, ok)
		}
	}
}

func TestZeroHasNoSign(t *testing.T) {
	five := From(-5)
	rest, _, _ := From(0).Floor(From(-5))
	for i, a := range []Int{
		{}, Of(false, nat.Nat{}), Of(true, nat.Nat{}), Of(true, nat.Of(0)), From(0), From(0).Minus(), Int{}.Minus(),
		five.Plus(From(5)), From(5).Plus(five), five.Times(From(0)), From(0).Times(five), rest,
	} {
		if !bare(a) || a.Neg() || a.Sign() != 0 || a.Digits("-") != "0" || a.Cmp(Int{}) != 0 || (Int{}).Cmp(a) != 0 {
			t.Errorf("number %d: %s, sign %d", i, a.Digits("-"), a.Sign())
		}
	}
}

// TestReplacedSize: the embedded absolute value is open to all, and a 0 put there
// has no sign either.
func TestReplacedSize(t *testing.T) {
	a := From(-5)
	a.Nat = nat.Of(8)
	if a.Digits("-") != "-8" || a.Sign() != -1 {
		t.Errorf("8: %s", a.Digits("-"))
	}
	a.Nat = nat.Nat{}
	if a.Neg() || a.Sign() != 0 || a.Digits("-") != "0" || a.Cmp(Int{}) != 0 || !holds(a.Plus(From(3)), big.NewInt(3)) {
		t.Errorf("0: %s, sign %d", a.Digits("-"), a.Sign())
	}
	if b := (Int{Nat: nat.Of(6)}); !holds(b, big.NewInt(6)) {
		t.Errorf("6: %s", b.Digits("-"))
	}
}

func TestNegSizeSignMinus(t *testing.T) {
	for _, a := range edgeNumbers(t) {
		n := bigOf(a)
		if !holds(a, n) {
			t.Errorf("%v: %v, %s, %d", n, a.Neg(), a.Size().Text(), a.Sign())
		}
		if m := a.Minus(); !holds(m, new(big.Int).Neg(n)) {
			t.Errorf("minus %v: %s", n, m.Digits("-"))
		}
		if m := a.Minus().Minus(); m.Cmp(a) != 0 {
			t.Errorf("minus minus %v: %s", n, m.Digits("-"))
		}
	}
	if a := From(-3); a.Size().Cmp(nat.Of(3)) != 0 || a.Minus().Neg() || !a.Neg() || From(3).Neg() || !From(3).Minus().Neg() {
		t.Error("-3 and 3")
	}
}

// TestMethodsOfTheSize: those of the absolute value are the integer's own, and
// tell nothing of its sign.
func TestMethodsOfTheSize(t *testing.T) {
	a := From(-12)
	if a.Zero() || a.One() || !a.Even() || a.Limbs() != 1 || a.Bits() != 4 || a.Text() != "12" {
		t.Errorf("%v, %v, %v, %d, %d, %s", a.Zero(), a.One(), a.Even(), a.Limbs(), a.Bits(), a.Text())
	}
	if n, ok := a.Uint(); !ok || n != 12 {
		t.Errorf("Uint: %d, %v", n, ok)
	}
	if !From(-1).One() || !(Int{}).Zero() || From(-3).Even() {
		t.Error("One, Zero, Even")
	}
	difference, ok := a.Sub(nat.Of(2))
	quotient, rest, divided := a.DivMod(nat.Of(5))
	power, small := a.Pow(2, 1)
	if !ok || !divided || !small {
		t.Errorf("%v, %v, %v", ok, divided, small)
	}
	for i, n := range []nat.Nat{a.Add(nat.Of(1)), difference, a.Mul(nat.Of(3)), quotient, rest, a.Gcd(nat.Of(18)), a.Shl(3), a.Shr(1), power} {
		if want := []uint64{13, 10, 36, 2, 2, 6, 96, 6, 144}[i]; n.Cmp(nat.Of(want)) != 0 {
			t.Errorf("method %d: %s, not %d", i, n.Text(), want)
		}
	}
}

func TestCmp(t *testing.T) {
	numbers := edgeNumbers(t)
	for _, a := range numbers {
		for _, b := range numbers {
			if got, want := a.Cmp(b), bigOf(a).Cmp(bigOf(b)); got != want {
				t.Fatalf("%v with %v: %d", bigOf(a), bigOf(b), got)
			}
		}
	}
	for _, x := range [][3]int{
		{0, 0, 0}, {1, 0, 1}, {0, 1, -1}, {-1, 0, -1}, {0, -1, 1}, {2, 3, -1}, {-2, -3, 1}, {-3, -2, -1},
		{-3, 2, -1}, {3, -2, 1}, {-5, -5, 0}, {5, -5, 1}, {math.MinInt, math.MaxInt, -1}, {math.MinInt, math.MinInt + 1, -1},
	} {
		if got := From(x[0]).Cmp(From(x[1])); got != x[2] {
			t.Errorf("%d with %d: %d", x[0], x[1], got)
		}
	}
}

func TestPlusTimesOfTwo(t *testing.T) {
	numbers := edgeNumbers(t)
	for _, a := range numbers {
		for _, b := range numbers {
			m, n := bigOf(a), bigOf(b)
			if s := a.Plus(b); !holds(s, new(big.Int).Add(m, n)) {
				t.Fatalf("%v plus %v: %s", m, n, s.Digits("-"))
			}
			if p := a.Times(b); !holds(p, new(big.Int).Mul(m, n)) {
				t.Fatalf("%v times %v: %s", m, n, p.Digits("-"))
			}
		}
	}
}

func TestPlusTimesOfNone(t *testing.T) {
	for _, a := range edgeNumbers(t) {
		for i, s := range []Int{a.Plus(), a.Plus(nil...), a.Plus([]Int{}...), a.Times(), a.Times(nil...), a.Times([]Int{}...)} {
			if !holds(s, bigOf(a)) {
				t.Errorf("%v, call %d: %s", bigOf(a), i, s.Digits("-"))
			}
		}
	}
}

func TestPlusTimesOfThree(t *testing.T) {
	for _, x := range fewEdges {
		for _, y := range fewEdges {
			for _, z := range fewEdges {
				a, b, c := must(t, x), must(t, y), must(t, z)
				sum := new(big.Int).Add(bigOf(a), bigOf(b))
				product := new(big.Int).Mul(bigOf(a), bigOf(b))
				if s := a.Plus(b, c); !holds(s, sum.Add(sum, bigOf(c))) {
					t.Fatalf("%s, %s and %s: sum %s", x, y, z, s.Digits("-"))
				}
				if p := a.Times(b, c); !holds(p, product.Mul(product, bigOf(c))) {
					t.Fatalf("%s, %s and %s: product %s", x, y, z, p.Digits("-"))
				}
			}
		}
	}
}

func TestPlusTimesOfMany(t *testing.T) {
	numbers := edgeNumbers(t)
	var list []Int
	sum, product := big.NewInt(3), big.NewInt(3)
	for i, a := range numbers {
		if s := From(3).Plus(list...); !holds(s, sum) {
			t.Fatalf("sum of %d: %s", i, s.Digits("-"))
		}
		if p := From(3).Times(list...); !holds(p, product) {
			t.Fatalf("product of %d: %s", i, p.Digits("-"))
		}
		if a.Zero() {
			a = From(-i - 1)
		}
		list = append(list, a)
		sum.Add(sum, bigOf(a))
		product.Mul(product, bigOf(a))
	}
}

func TestPlusTimesOfMixedSigns(t *testing.T) {
	var down, factors []Int
	for n := range 1001 {
		down = append(down, From(500-n))
	}
	for n := range 20 {
		factors = append(factors, From(n+1).Times(From([]int{1, -1, -1}[n%3])))
	}
	if s := From(7).Plus(down...); s.Digits("-") != "7" {
		t.Errorf("sum: %s", s.Digits("-"))
	}
	if p := From(-1).Times(factors...); p.Digits("-") != "2432902008176640000" {
		t.Errorf("product: %s", p.Digits("-"))
	}
	if p := From(1).Times(factors[:2]...); p.Digits("-") != "-2" {
		t.Errorf("product of 1 and -2: %s", p.Digits("-"))
	}
	for i := range factors {
		with := slices.Insert(slices.Clone(factors), i, Int{})
		if p := From(-9).Times(with...); !bare(p) {
			t.Errorf("product with 0 as factor %d: %s", i, p.Digits("-"))
		}
	}
}

// floorOf returns quotient and remainder as another implementation has them.
func floorOf(m, n *big.Int) (*big.Int, *big.Int) {
	q, r := new(big.Int).QuoRem(m, n, new(big.Int))
	if r.Sign()*n.Sign() < 0 {
		q.Sub(q, big.NewInt(1))
		r.Add(r, n)
	}
	return q, r
}

// checkFloor checks one division, and that dividend, quotient, divisor and
// remainder fit together.
func checkFloor(t *testing.T, a, b Int) {
	t.Helper()
	q, r, ok := a.Floor(b)
	m, n := bigOf(a), bigOf(b)
	if n.Sign() == 0 {
		if ok || !bare(q) || !bare(r) {
			t.Fatalf("%v by 0: %s, %s, %v", m, q.Digits("-"), r.Digits("-"), ok)
		}
		return
	}
	if x, y := floorOf(m, n); !ok || !holds(q, x) || !holds(r, y) {
		t.Fatalf("%v by %v: %s, %s, %v", m, n, q.Digits("-"), r.Digits("-"), ok)
	}
	if q.Times(b).Plus(r).Cmp(a) != 0 {
		t.Fatalf("%v by %v: %s and %s do not fit", m, n, q.Digits("-"), r.Digits("-"))
	}
	if r.Sign() != 0 && r.Sign() != b.Sign() || r.Size().Cmp(b.Size()) >= 0 {
		t.Fatalf("%v by %v: remainder %s", m, n, r.Digits("-"))
	}
}

func TestFloor(t *testing.T) {
	for _, x := range [][4]int{
		{7, 2, 3, 1}, {-7, 2, -4, 1}, {7, -2, -4, -1}, {-7, -2, 3, -1},
		{6, 3, 2, 0}, {-6, 3, -2, 0}, {6, -3, -2, 0}, {-6, -3, 2, 0},
		{1, 5, 0, 1}, {-1, 5, -1, 4}, {1, -5, -1, -4}, {-1, -5, 0, -1},
		{5, 5, 1, 0}, {-5, 5, -1, 0}, {5, -5, -1, 0}, {-5, -5, 1, 0},
		{0, 5, 0, 0}, {0, -5, 0, 0}, {9, 1, 9, 0}, {9, -1, -9, 0}, {-9, 1, -9, 0}, {-9, -1, 9, 0},
		{math.MinInt, 2, math.MinInt / 2, 0}, {math.MinInt, 3, -3074457345618258603, 1}, {math.MinInt, math.MaxInt, -2, math.MaxInt - 1},
	} {
		q, r, ok := From(x[0]).Floor(From(x[1]))
		if !ok || !holds(q, big.NewInt(int64(x[2]))) || !holds(r, big.NewInt(int64(x[3]))) {
			t.Errorf("%d by %d: %s, %s, %v", x[0], x[1], q.Digits("-"), r.Digits("-"), ok)
		}
		checkFloor(t, From(x[0]), From(x[1]))
	}
	if q, _, ok := From(math.MinInt).Floor(From(-1)); !ok || q.Digits("-") != "9223372036854775808" {
		t.Errorf("the least by -1: %s, %v", q.Digits("-"), ok)
	}
}

func TestFloorOfSmall(t *testing.T) {
	for m := -30; m <= 30; m++ {
		for n := -12; n <= 12; n++ {
			checkFloor(t, From(m), From(n))
		}
	}
}

func TestFloorAtTheEdges(t *testing.T) {
	numbers := edgeNumbers(t)
	for _, a := range numbers {
		for _, b := range numbers {
			checkFloor(t, a, b)
			p := a.Times(b)
			checkFloor(t, p, b)
			checkFloor(t, p.Plus(From(1)), b)
			checkFloor(t, p.Plus(From(-1)), b)
		}
	}
}

func TestFloorByZero(t *testing.T) {
	for _, a := range edgeNumbers(t) {
		for _, zero := range []Int{{}, From(0), Of(true, nat.Of(0)), From(-1).Plus(From(1))} {
			q, r, ok := a.Floor(zero)
			if ok || !bare(q) || !bare(r) {
				t.Errorf("%v: %s, %s, %v", bigOf(a), q.Digits("-"), r.Digits("-"), ok)
			}
		}
	}
}

func TestInt(t *testing.T) {
	for _, x := range []struct {
		text string
		n    int
		ok   bool
	}{
		{"0", 0, true}, {"1", 1, true}, {"-1", -1, true}, {"4294967296", 1 << 32, true}, {"-4294967296", -1 << 32, true},
		{"9223372036854775806", math.MaxInt - 1, true}, {"9223372036854775807", math.MaxInt, true},
		{"9223372036854775808", 0, false}, {"9223372036854775809", 0, false},
		{"-9223372036854775807", math.MinInt + 1, true}, {"-9223372036854775808", math.MinInt, true},
		{"-9223372036854775809", 0, false}, {"-9223372036854775810", 0, false},
		{"18446744073709551615", 0, false}, {"-18446744073709551615", 0, false},
		{"18446744073709551616", 0, false}, {"-18446744073709551616", 0, false},
		{"18446744073709551617", 0, false}, {"-18446744073709551617", 0, false},
		{"340282366920938463463374607431768211456", 0, false}, {"-340282366920938463463374607431768211456", 0, false},
	} {
		if n, ok := must(t, x.text).Int(); n != x.n || ok != x.ok {
			t.Errorf("%s: %d, %v", x.text, n, ok)
		}
	}
	for _, a := range edgeNumbers(t) {
		want := 0
		if bigOf(a).IsInt64() {
			want = int(bigOf(a).Int64())
		}
		if n, ok := a.Int(); n != want || ok != bigOf(a).IsInt64() {
			t.Errorf("%v: %d, %v", bigOf(a), n, ok)
		}
	}
}

func TestDigits(t *testing.T) {
	for _, sign := range []string{"", "-", "~", "\u00af", "minus ", "-0", "\xff\x00"} {
		for _, n := range []int{0, 1, 9, 10, 12, 1000000000, math.MaxInt} {
			if s := From(n).Digits(sign); s != strconv.Itoa(n) {
				t.Errorf("%d with %q: %q", n, sign, s)
			}
			if s := From(-n).Digits(sign); n > 0 && s != sign+strconv.Itoa(n) {
				t.Errorf("%d with %q: %q", -n, sign, s)
			}
		}
		if s := Of(true, nat.Nat{}).Digits(sign); s != "0" {
			t.Errorf("0 with %q: %q", sign, s)
		}
	}
	for _, a := range edgeNumbers(t) {
		if s := a.Digits("-"); s != bigOf(a).String() {
			t.Errorf("%v: %q", bigOf(a), s)
		}
	}
	if s := From(math.MinInt).Digits("\u00af"); s != "\u00af9223372036854775808" {
		t.Errorf("the least: %q", s)
	}
}

// TestMemory: no call changes its numbers, or the list that it is given, with the
// room behind it, or keeps that list.
func TestMemory(t *testing.T) {
	texts := []string{"-7", "0", "18446744073709551616", "-4294967296", "5"}
	room := make([]Int, 0, 8)
	for _, s := range texts {
		room = append(room, must(t, s))
	}
	for n := range len(texts) + 1 {
		a, list := From(-9), room[:n]
		sum, product := a.Plus(list...), a.Times(list...)
		for _, b := range list {
			a.Cmp(b)
			a.Floor(b)
			b.Floor(a)
			b.Minus()
		}
		for i, s := range texts {
			if room[i].Digits("-") != s {
				t.Errorf("list of %d: number %d is now %s", n, i, room[i].Digits("-"))
			}
		}
		if a.Digits("-") != "-9" || !bare(room[:8][5]) {
			t.Errorf("list of %d: %s, and %s behind", n, a.Digits("-"), room[:8][5].Digits("-"))
		}
		wantSum, wantProduct := sum.Digits("-"), product.Digits("-")
		kept := slices.Clone(room)
		clear(room)
		if sum.Digits("-") != wantSum || product.Digits("-") != wantProduct {
			t.Errorf("list of %d: results hang on the list", n)
		}
		copy(room, kept)
	}
}
