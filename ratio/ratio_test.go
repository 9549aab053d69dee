package ratio

import (
	"math"
	"math/big"
	"strconv"
	"strings"
	"testing"

	"typeball/api"
	"typeball/nat"
	"typeball/whole"
)

// edges are the numbers at which signs, divisors and bounds go wrong.
var edges = []string{
	"0", "1", "-1", "2", "-2", "3", "10", "-7", "1/2", "-1/2", "1/3", "-2/3", "3/2", "-3/2", "7/4", "-12/35", "1/4294967295",
	"4294967295", "-4294967296", "4294967296/3", "-3/4294967296", "4294967297/4294967296",
	"9223372036854775807", "-9223372036854775808", "9223372036854775807/9223372036854775806",
	"18446744073709551615", "18446744073709551616", "-18446744073709551617/2", "1/18446744073709551616",
	"-123456789012345678901234567890/98765432109876543210987654321",
	"1" + strings.Repeat("0", 100) + "/" + strings.Repeat("3", 90),
}

// must reads a number: digits, perhaps with a minus ahead of them, and perhaps a
// line and more digits behind them.
func must(t *testing.T, s string) Rat {
	t.Helper()
	top, bot, _ := strings.Cut(s, "/")
	a, ok := New(wholeOf(t, top), wholeOf(t, bot+strings.Repeat("1", 1-min(len(bot), 1))))
	if !ok {
		t.Fatalf("%q: false", s)
	}
	return a
}

// wholeOf reads digits, perhaps with a minus ahead of them.
func wholeOf(t *testing.T, s string) whole.Int {
	t.Helper()
	digits, neg := strings.CutPrefix(s, "-")
	n, ok := nat.Parse(digits)
	if !ok {
		t.Fatalf("Parse(%q): false", digits)
	}
	return whole.Of(neg, n)
}

// numbers returns the edges, and the zero value.
func numbers(t *testing.T) []Rat {
	t.Helper()
	all := []Rat{{}}
	for _, s := range edges {
		all = append(all, must(t, s))
	}
	return all
}

// bigInt returns an integer as another implementation has it.
func bigInt(n whole.Int) *big.Int {
	b, _ := new(big.Int).SetString(n.Digits("-"), 10)
	return b
}

// bigOf returns a number as another implementation has it.
func bigOf(a Rat) *big.Rat {
	return new(big.Rat).SetFrac(bigInt(a.Top()), bigInt(whole.Of(false, a.Bot())))
}

// numOf returns what Num returns for another implementation's number.
func numOf(b *big.Rat) api.Num {
	return api.Num{Neg: b.Sign() < 0, Top: new(big.Int).Abs(b.Num()).String(), Bot: b.Denom().String()}
}

// holds reports whether a number is another implementation's, by all that tells
// of its parts.
func holds(a Rat, b *big.Rat) bool {
	return a.Num() == numOf(b) && a.Sign() == b.Sign() && a.IsWhole() == b.IsInt() &&
		bigInt(a.Top()).Cmp(b.Num()) == 0 && a.Bot().Text() == b.Denom().String()
}

// tell returns the number as must reads it.
func tell(a Rat) string { return a.Top().Digits("-") + "/" + a.Bot().Text() }

func TestNew(t *testing.T) {
	for _, x := range []struct {
		top, bot int
		want     string
	}{
		{6, -4, "-3/2"}, {6, 4, "3/2"}, {-6, 4, "-3/2"}, {-6, -4, "3/2"},
		{2, 3, "2/3"}, {-2, 3, "-2/3"}, {2, -3, "-2/3"}, {-2, -3, "2/3"},
		{0, 5, "0/1"}, {0, -5, "0/1"}, {7, 1, "7/1"}, {7, -1, "-7/1"}, {-7, -1, "7/1"},
		{12, 4, "3/1"}, {-12, 4, "-3/1"}, {4, 12, "1/3"}, {4, -12, "-1/3"}, {5, 5, "1/1"}, {5, -5, "-1/1"},
		{math.MinInt, math.MinInt, "1/1"}, {math.MinInt, -1, "9223372036854775808/1"}, {1, math.MinInt, "-1/9223372036854775808"},
	} {
		if a, ok := New(whole.From(x.top), whole.From(x.bot)); !ok || tell(a) != x.want {
			t.Errorf("New(%d, %d): %s, %v", x.top, x.bot, tell(a), ok)
		}
	}
	for m := -24; m <= 24; m++ {
		for n := -24; n <= 24; n++ {
			a, ok := New(whole.From(m), whole.From(n))
			if ok != (n != 0) || ok && !holds(a, big.NewRat(int64(m), int64(n))) {
				t.Errorf("New(%d, %d): %s, %v", m, n, tell(a), ok)
			}
		}
	}
}

func TestNewOfMultiples(t *testing.T) {
	for _, a := range numbers(t) {
		for _, n := range []string{"1", "-1", "6", "-4294967296", "340282366920938463463374607431768211457"} {
			by := wholeOf(t, n)
			b, ok := New(a.Top().Times(by), whole.Of(false, a.Bot()).Times(by))
			if !ok || !holds(b, bigOf(a)) {
				t.Errorf("%s times %s: %s, %v", tell(a), n, tell(b), ok)
			}
		}
	}
}

func TestNewByZero(t *testing.T) {
	for _, zero := range []whole.Int{{}, whole.From(0), whole.Of(true, nat.Nat{})} {
		for _, top := range []int{0, 1, -1, 12, math.MinInt} {
			if a, ok := New(whole.From(top), zero); ok || tell(a) != "0/1" {
				t.Errorf("%d by 0: %s, %v", top, tell(a), ok)
			}
		}
	}
}

func TestFromWhole(t *testing.T) {
	for _, n := range []int{0, 1, -1, 2, -10, 1 << 32, -1 << 32, math.MaxInt, math.MinInt} {
		want := new(big.Rat).SetInt64(int64(n))
		if a := From(n); !holds(a, want) {
			t.Errorf("From(%d): %s", n, tell(a))
		}
		if a := Whole(whole.From(n)); !holds(a, want) {
			t.Errorf("Whole(%d): %s", n, tell(a))
		}
	}
	far := wholeOf(t, "-"+strings.Repeat("9", 700))
	if a := Whole(far); a.Top().Cmp(far) != 0 || !a.Bot().One() || !a.IsWhole() {
		t.Error("Whole of 700 digits")
	}
}

func TestNum(t *testing.T) {
	for s, want := range map[string]api.Num{
		"0": {Top: "0", Bot: "1"}, "1": {Top: "1", Bot: "1"}, "-1": {Neg: true, Top: "1", Bot: "1"},
		"6/4": {Top: "3", Bot: "2"}, "-6/4": {Neg: true, Top: "3", Bot: "2"}, "-120": {Neg: true, Top: "120", Bot: "1"},
		"1/18446744073709551616": {Top: "1", Bot: "18446744073709551616"},
	} {
		if n := must(t, s).Num(); n != want {
			t.Errorf("%s: %v", s, n)
		}
	}
	half := must(t, "1/2")
	for i, zero := range []Rat{{}, From(0), From(0).Minus(), Rat{}.Minus(), half.Plus(half.Minus()), half.Minus().Times(From(0)), must(t, "0/7").Minus()} {
		if zero.Num() != (api.Num{Top: "0", Bot: "1"}) {
			t.Errorf("0, form %d: %v", i, zero.Num())
		}
	}
}

func TestOf(t *testing.T) {
	for _, a := range numbers(t) {
		if b, ok := Of(a.Num()); !ok || !holds(b, bigOf(a)) {
			t.Errorf("%s: %s, %v", tell(a), tell(b), ok)
		}
	}
	for _, n := range []api.Num{
		{}, {Top: "1"}, {Bot: "1"}, {Top: "0"}, {Neg: true, Top: "0", Bot: "1"}, {Top: "0", Bot: "2"}, {Top: "0", Bot: "0"},
		{Top: "1", Bot: "0"}, {Top: "6", Bot: "4"}, {Neg: true, Top: "6", Bot: "4"}, {Top: "2", Bot: "2"}, {Top: "4", Bot: "2"},
		{Top: "01", Bot: "1"}, {Top: "1", Bot: "01"}, {Top: "00", Bot: "1"}, {Top: "0", Bot: "00"}, {Top: "-1", Bot: "1"}, {Top: "1", Bot: "-1"},
		{Top: "+1", Bot: "1"}, {Top: "1 ", Bot: "1"}, {Top: " 1", Bot: "1"}, {Top: "1.5", Bot: "1"}, {Top: "1e3", Bot: "1"},
		{Top: "x", Bot: "1"}, {Top: "1", Bot: "x"}, {Top: "\u00af1", Bot: "1"}, {Top: "\uff11", Bot: "1"}, {Top: "1\x00", Bot: "1"}, {Top: "\xff", Bot: "1"},
	} {
		if a, ok := Of(n); ok {
			t.Errorf("%v: %s", n, tell(a))
		}
	}
}

// TestOfLong: a number has as many digits as it has, more than are parsed at once, too.
func TestOfLong(t *testing.T) {
	for _, n := range []int{1999, 2000, 2001, 3999, 4000, 4001, 9000} {
		for _, digits := range []string{strings.Repeat("7", n), "1" + strings.Repeat("0", n-1), strings.Repeat("9", n), strings.Repeat("10", n/2)} {
			for _, x := range []api.Num{{Top: digits, Bot: "1"}, {Neg: true, Top: digits, Bot: "1"}, {Top: "1", Bot: digits}, {Neg: true, Top: "1", Bot: digits}} {
				if a, ok := Of(x); !ok || a.Num() != x || a.Sign() < 0 != x.Neg {
					t.Fatalf("%d digits %.5s.., sign %v: %v", n, digits, x.Neg, ok)
				}
			}
		}
	}
	nines := strings.Repeat("9", 2500)
	for _, n := range []api.Num{
		{Top: "0" + nines, Bot: "1"}, {Top: strings.Repeat("0", 2001) + "1", Bot: "1"}, {Top: strings.Repeat("0", 2001), Bot: "1"},
		{Top: nines + "x", Bot: "1"}, {Top: "x" + nines, Bot: "1"}, {Top: "1", Bot: nines + "x"}, {Top: "1", Bot: "x" + nines},
		{Top: nines, Bot: nines}, {Top: nines, Bot: "9"}, {Top: "3", Bot: nines}, {Top: nines, Bot: strings.Repeat("0", 4000)},
	} {
		if _, ok := Of(n); ok {
			t.Errorf("%.5s.. by %.5s..", n.Top, n.Bot)
		}
	}
}

// TestEqualNumbers: whatever made them, equal numbers have the same Num (P3.6).
func TestEqualNumbers(t *testing.T) {
	for _, a := range numbers(t) {
		again, _ := Of(a.Num())
		for i, b := range []Rat{
			again, a.Minus().Minus(), a.Plus(), a.Times(), a.Plus(Rat{}), a.Times(From(1)),
			a.Plus(must(t, "5/6"), must(t, "-5/6")), a.Times(must(t, "-5/6"), must(t, "-6/5")),
		} {
			if a.Cmp(b) != 0 || b.Cmp(a) != 0 || a.Num() != b.Num() {
				t.Errorf("%s, way %d: %s", tell(a), i, tell(b))
			}
		}
		for _, b := range numbers(t) {
			if (a.Cmp(b) == 0) != (a.Num() == b.Num()) {
				t.Errorf("%s and %s", tell(a), tell(b))
			}
		}
	}
}

func TestTopBotSign(t *testing.T) {
	for _, x := range []struct {
		text, top, bot string
		sign           int
		whole, limited bool
	}{
		{"0", "0", "1", 0, true, true}, {"1", "1", "1", 1, true, true}, {"-1", "-1", "1", -1, true, true},
		{"2", "2", "1", 1, true, false}, {"-2", "-2", "1", -1, true, false},
		{"1/2", "1", "2", 1, false, false}, {"-1/2", "-1", "2", -1, false, false}, {"-9/6", "-3", "2", -1, false, false},
		{"4294967296", "4294967296", "1", 1, true, false}, {"-1/4294967297", "-1", "4294967297", -1, false, false},
	} {
		a := must(t, x.text)
		if a.Top().Digits("-") != x.top || a.Bot().Text() != x.bot || a.Sign() != x.sign || a.IsWhole() != x.whole || a.Limited() != x.limited {
			t.Errorf("%s: %s, %d, %v, %v", x.text, tell(a), a.Sign(), a.IsWhole(), a.Limited())
		}
	}
	var zero Rat
	if !zero.Top().Zero() || !zero.Bot().One() || zero.Sign() != 0 || !zero.IsWhole() || !zero.Limited() {
		t.Errorf("the zero value: %s", tell(zero))
	}
}

func TestLimbs(t *testing.T) {
	for s, want := range map[string]int{
		"0": 1, "1": 1, "-1": 1, "7/8": 1, "4294967295": 1, "-4294967295/4294967294": 1,
		"4294967296": 2, "-4294967296": 2, "1/4294967296": 2, "3/4294967296": 2, "4294967297/4294967296": 2,
		"18446744073709551615": 2, "18446744073709551616": 3, "1/18446744073709551616": 3, "18446744073709551616/4294967297": 3, "-4294967297/18446744073709551616": 3,
	} {
		if n := must(t, s).Limbs(); n != want {
			t.Errorf("%s: %d", s, n)
		}
	}
	if n := (Rat{}).Limbs(); n != 1 {
		t.Errorf("the zero value: %d", n)
	}
}

func TestInt(t *testing.T) {
	for _, x := range []struct {
		text string
		n    int
		ok   bool
	}{
		{"0", 0, true}, {"1", 1, true}, {"-1", -1, true}, {"12/4", 3, true}, {"-4294967296", -1 << 32, true},
		{"9223372036854775807", math.MaxInt, true}, {"9223372036854775808", 0, false},
		{"-9223372036854775808", math.MinInt, true}, {"-9223372036854775809", 0, false},
		{"1/2", 0, false}, {"-1/2", 0, false}, {"3/2", 0, false}, {"-4/3", 0, false},
		{"9223372036854775807/2", 0, false}, {"18446744073709551617/2", 0, false}, {"1/18446744073709551616", 0, false},
	} {
		if n, ok := must(t, x.text).Int(); n != x.n || ok != x.ok {
			t.Errorf("%s: %d, %v", x.text, n, ok)
		}
	}
	if n, ok := (Rat{}).Int(); n != 0 || !ok {
		t.Errorf("the zero value: %d, %v", n, ok)
	}
}

func TestOfTwo(t *testing.T) {
	all := numbers(t)
	for _, a := range all {
		for _, b := range all {
			m, n := bigOf(a), bigOf(b)
			if got := a.Cmp(b); got != m.Cmp(n) {
				t.Fatalf("%v with %v: %d", m, n, got)
			}
			if s := a.Plus(b); !holds(s, new(big.Rat).Add(m, n)) {
				t.Fatalf("%v plus %v: %s", m, n, tell(s))
			}
			if p := a.Times(b); !holds(p, new(big.Rat).Mul(m, n)) {
				t.Fatalf("%v times %v: %s", m, n, tell(p))
			}
			q, ok := a.By(b)
			if n.Sign() == 0 && (ok || tell(q) != "0/1") || n.Sign() != 0 && (!ok || !holds(q, new(big.Rat).Quo(m, n))) {
				t.Fatalf("%v by %v: %s, %v", m, n, tell(q), ok)
			}
		}
		if m := a.Minus(); !holds(m, new(big.Rat).Neg(bigOf(a))) {
			t.Errorf("minus %s: %s", tell(a), tell(m))
		}
	}
}

func TestCmp(t *testing.T) {
	for _, x := range []struct {
		a, b string
		want int
	}{
		{"0", "0", 0}, {"1/2", "1/3", 1}, {"1/3", "1/2", -1}, {"-1/2", "-1/3", -1}, {"-1/3", "-1/2", 1}, {"2/4", "1/2", 0},
		{"1/2", "0", 1}, {"-1/2", "0", -1}, {"0", "1/2", -1}, {"0", "-1/2", 1}, {"7/2", "3", 1}, {"3", "7/2", -1}, {"-7/2", "-3", -1},
		{"5", "3", 1}, {"-5", "3", -1}, {"5", "5", 0}, {"1/2", "-1/2", 1},
	} {
		if got := must(t, x.a).Cmp(must(t, x.b)); got != x.want {
			t.Errorf("%s with %s: %d", x.a, x.b, got)
		}
	}
}

func TestPlusTimesOfMany(t *testing.T) {
	var list []Rat
	sum, product := big.NewRat(3, 7), big.NewRat(3, 7)
	first := must(t, "3/7")
	for i, a := range numbers(t) {
		if s := first.Plus(list...); !holds(s, sum) {
			t.Fatalf("sum of %d: %s", i, tell(s))
		}
		if p := first.Times(list...); !holds(p, product) {
			t.Fatalf("product of %d: %s", i, tell(p))
		}
		if a.Sign() == 0 {
			a = must(t, "-9/14")
		}
		list = append(list, a)
		sum.Add(sum, bigOf(a))
		product.Mul(product, bigOf(a))
	}
	if p := first.Times(append(list, Rat{})...); tell(p) != "0/1" {
		t.Errorf("product with 0: %s", tell(p))
	}
	for i, a := range []Rat{first.Plus(), first.Times(), first.Plus(nil...), first.Times([]Rat{}...)} {
		if tell(a) != "3/7" {
			t.Errorf("none, call %d: %s", i, tell(a))
		}
	}
}

func TestListStays(t *testing.T) {
	list := append(make([]Rat, 0, 3), From(2), must(t, "1/3"))
	spare := list[:3]
	spare[2] = From(99)
	From(1).Plus(list...)
	From(1).Times(list...)
	if tell(list[0]) != "2/1" || tell(list[1]) != "1/3" || tell(spare[2]) != "99/1" {
		t.Error("the list has changed")
	}
	sum := From(0).Plus(list[1:]...)
	list[1] = From(7)
	if tell(sum) != "1/3" {
		t.Error("the sum has changed")
	}
}

// floorOf returns the floor as another implementation has it.
func floorOf(b *big.Rat) *big.Int {
	// Euclid's quotient by a positive denominator is rounded down.
	return new(big.Int).Div(b.Num(), b.Denom())
}

func TestFloorCeil(t *testing.T) {
	for _, x := range []struct{ a, floor, ceil string }{
		{"0", "0", "0"}, {"3", "3", "3"}, {"-3", "-3", "-3"}, {"7/2", "3", "4"}, {"-7/2", "-4", "-3"},
		{"1/3", "0", "1"}, {"-1/3", "-1", "0"}, {"2/3", "0", "1"}, {"-2/3", "-1", "0"}, {"1", "1", "1"}, {"-1", "-1", "-1"},
	} {
		a := must(t, x.a)
		if a.Floor().Digits("-") != x.floor || a.Ceil().Digits("-") != x.ceil {
			t.Errorf("%s: %s and %s", x.a, a.Floor().Digits("-"), a.Ceil().Digits("-"))
		}
	}
	for _, a := range numbers(t) {
		b := bigOf(a)
		ceil := floorOf(new(big.Rat).Neg(b))
		if bigInt(a.Floor()).Cmp(floorOf(b)) != 0 || bigInt(a.Ceil()).Cmp(ceil.Neg(ceil)) != 0 {
			t.Errorf("%v: %s and %s", b, a.Floor().Digits("-"), a.Ceil().Digits("-"))
		}
	}
}

func TestRest(t *testing.T) {
	for _, x := range []struct{ a, x, want string }{
		{"-2", "7", "-1/1"}, {"2", "7", "1/1"}, {"2", "-7", "1/1"}, {"-2", "-7", "-1/1"}, {"3", "6", "0/1"}, {"-3", "6", "0/1"}, {"3", "-6", "0/1"},
		{"1/2", "7/3", "1/3"}, {"1/2", "-7/3", "1/6"}, {"-1/2", "7/3", "-1/6"}, {"1", "7/2", "1/2"}, {"1", "-7/2", "1/2"}, {"-1", "7/2", "-1/2"},
		{"0", "5", "5/1"}, {"0", "-5/3", "-5/3"}, {"0", "0", "0/1"}, {"4", "0", "0/1"}, {"10", "3", "3/1"}, {"10", "-3", "7/1"},
	} {
		if r := must(t, x.a).Rest(must(t, x.x)); tell(r) != x.want {
			t.Errorf("%s of %s: %s", x.a, x.x, tell(r))
		}
	}
	for _, a := range numbers(t) {
		for _, x := range numbers(t) {
			want := bigOf(x)
			if a.Sign() != 0 {
				quotient := new(big.Rat).SetInt(floorOf(new(big.Rat).Quo(want, bigOf(a))))
				want = new(big.Rat).Sub(want, quotient.Mul(quotient, bigOf(a)))
			}
			if r := a.Rest(x); !holds(r, want) {
				t.Fatalf("%s of %s: %s", tell(a), tell(x), tell(r))
			}
		}
	}
}

// powerOf returns the power as another implementation has it, for an n with which
// it is one.
func powerOf(b *big.Rat, n int) *big.Rat {
	power := big.NewRat(1, 1)
	for range max(n, -n) {
		power.Mul(power, b)
	}
	if n < 0 {
		power.Inv(power)
	}
	return power
}

func TestPow(t *testing.T) {
	for _, a := range numbers(t) {
		for n := -9; n <= 9; n++ {
			p, ok := a.Pow(n, 1000)
			if a.Sign() == 0 && n < 0 {
				if ok || tell(p) != "0/1" {
					t.Errorf("0 to the power %d: %s, %v", n, tell(p), ok)
				}
				continue
			}
			if !ok || !holds(p, powerOf(bigOf(a), n)) {
				t.Errorf("%s to the power %d: %s, %v", tell(a), n, tell(p), ok)
			}
		}
	}
	if p, ok := must(t, "2/3").Pow(-2, 1); !ok || tell(p) != "9/4" {
		t.Errorf("2/3 to the power -2: %s, %v", tell(p), ok)
	}
}

func TestPowOfNoneIsOne(t *testing.T) {
	for _, a := range numbers(t) {
		for _, most := range []int{math.MinInt, -1, 0, 1, 64, math.MaxInt} {
			if p, ok := a.Pow(0, most); !ok || tell(p) != "1/1" {
				t.Errorf("%s to the power 0, %d limbs: %s, %v", tell(a), most, tell(p), ok)
			}
		}
	}
}

func TestPowOfLimited(t *testing.T) {
	for _, n := range []int{1, 2, 3, 1 << 40, 1<<40 + 1, math.MaxInt, math.MaxInt - 1, -1, -2, -1 << 40, math.MinInt, math.MinInt + 1} {
		for _, most := range []int{math.MinInt, -1, 0, 1, math.MaxInt} {
			if p, ok := (Rat{}).Pow(n, most); ok != (n > 0) || tell(p) != "0/1" {
				t.Errorf("0 to the power %d, %d limbs: %s, %v", n, most, tell(p), ok)
			}
			if p, ok := From(1).Pow(n, most); !ok || tell(p) != "1/1" {
				t.Errorf("1 to the power %d, %d limbs: %s, %v", n, most, tell(p), ok)
			}
			want := map[bool]string{true: "1/1", false: "-1/1"}[n%2 == 0]
			if p, ok := From(-1).Pow(n, most); !ok || tell(p) != want {
				t.Errorf("-1 to the power %d, %d limbs: %s, %v", n, most, tell(p), ok)
			}
		}
	}
}

// TestPowAtTheLimit: a power is returned exactly if neither numerator nor
// denominator has more limbs than allowed.
func TestPowAtTheLimit(t *testing.T) {
	for _, s := range []string{"2", "-2", "1/2", "-1/2", "3/2", "2/3", "-65536/65537", "65537/65536", "4294967295/2", "2/4294967295", "-4294967296", "1/4294967296"} {
		a := must(t, s)
		for _, n := range []int{1, 2, 31, 32, 33, 63, 64, 65, -1, -2, -31, -32, -33, -64} {
			want := powerOf(bigOf(a), n)
			limbs := (max(want.Num().BitLen(), want.Denom().BitLen()) + 31) / 32
			if p, ok := a.Pow(n, limbs); !ok || !holds(p, want) || p.Limbs() != limbs {
				t.Errorf("%s to the power %d, %d limbs: %s, %v", s, n, limbs, tell(p), ok)
			}
			for _, most := range []int{limbs - 1, 0, -1, math.MinInt} {
				if p, ok := a.Pow(n, most); ok || tell(p) != "0/1" {
					t.Errorf("%s to the power %d, %d limbs: %s, %v", s, n, most, tell(p), ok)
				}
			}
		}
	}
	for _, s := range []string{"2", "-1/2", "3/7"} {
		for _, n := range []int{math.MaxInt, math.MinInt, math.MinInt + 1, 1 << 40} {
			if p, ok := must(t, s).Pow(n, api.MaxLimbs); ok || tell(p) != "0/1" {
				t.Errorf("%s to the power %d: %s, %v", s, n, tell(p), ok)
			}
		}
	}
	if p, ok := From(2).Pow(32*api.MaxLimbs-1, api.MaxLimbs); !ok || p.Limbs() != api.MaxLimbs {
		t.Errorf("2 to the last power: %v", ok)
	}
	if _, ok := From(2).Pow(32*api.MaxLimbs, api.MaxLimbs); ok {
		t.Error("2 to the power beyond the last one")
	}
}

func TestNumbersStay(t *testing.T) {
	a, b := must(t, "-7/3"), must(t, "5/2")
	for i := range 3 {
		a.Minus()
		a.Plus(b)
		a.Times(b)
		a.By(b)
		a.Rest(b)
		a.Pow(-3, 9)
		a.Floor()
		a.Ceil()
		a.Num()
		if tell(a) != "-7/3" || tell(b) != "5/2" {
			t.Fatal(strconv.Itoa(i) + ": " + tell(a) + " and " + tell(b))
		}
	}
}
