package mono

import (
	"math"
	"math/big"
	"slices"
	"testing"

	"typeball/api"
	"typeball/ratio"
)

// powers returns the powers of 2 with these exponents, and the numbers next to them.
func powers(exponents ...uint) []*big.Int {
	var all []*big.Int
	for _, n := range exponents {
		power := new(big.Int).Lsh(big.NewInt(1), n)
		for d := int64(-1); d <= 1; d++ {
			all = append(all, new(big.Int).Add(power, big.NewInt(d)))
		}
	}
	return all
}

// edges are the numbers at which signs, carries and limbs go wrong.
func edges() []string {
	tops := append(powers(1, 3, 31, 32, 63, 64, 2016, 2047, 2048, 2080), big.NewInt(0), big.NewInt(20), big.NewInt(300), big.NewInt(301))
	all := []string{"0"}
	for _, top := range tops {
		for _, bot := range powers(1, 32, 2048) {
			x := new(big.Rat).SetFrac(top, bot)
			if x.Sign() != 0 {
				all = append(all, x.RatString(), x.Neg(x).RatString(), x.Inv(x).RatString(), x.Neg(x).RatString())
			}
		}
	}
	slices.Sort(all)
	return slices.Compact(all)
}

// limbsOf returns how many limbs a number of another implementation has.
func limbsOf(x *big.Rat) int {
	return (max(x.Num().BitLen(), x.Denom().BitLen()) + 31) / 32
}

// floorOf returns the floor of another implementation's number.
func floorOf(x *big.Rat) *big.Rat {
	// Euclid's quotient by a positive denominator is rounded down.
	return new(big.Rat).SetInt(new(big.Int).Div(x.Num(), x.Denom()))
}

// doneOf returns what a function does to another implementation's number, as that has
// it, if there were no limit; nil: it's too great to be worked out.
func doneOf(c rune, x *big.Rat) (*big.Rat, api.Errno) {
	y := new(big.Rat)
	switch c {
	case '+':
		return y.Set(x), api.OK
	case '-':
		return y.Neg(x), api.OK
	case '|':
		return y.Abs(x), api.OK
	case 0xd7:
		return y.SetInt64(int64(x.Sign())), api.OK
	case 0xf7:
		if x.Sign() != 0 {
			return y.Inv(x), api.OK
		}
	case 0x2308:
		return y.Neg(floorOf(y.Neg(x))), api.OK
	case 0x230a:
		return floorOf(x), api.OK
	case '!':
		switch {
		case !x.IsInt() || x.Sign() < 0:
		case x.Cmp(big.NewRat(5000, 1)) > 0:
			return nil, api.OK
		default:
			return y.SetInt(new(big.Int).MulRange(1, x.Num().Int64())), api.OK
		}
	case '~':
		if x.IsInt() && x.Num().IsUint64() && x.Num().Uint64() <= 1 {
			return y.Sub(big.NewRat(1, 1), x), api.OK
		}
	}
	return y.SetInt64(0), api.ErrDomain
}

// bigOf returns a number as another implementation has it.
func bigOf(t *testing.T, text string) *big.Rat {
	t.Helper()
	x, ok := new(big.Rat).SetString(text)
	if !ok {
		t.Fatalf("no number: %q", text)
	}
	return x
}

// check checks one call of One.
func check(t *testing.T, c rune, x ratio.Rat, limbs int, want string, wantE api.Errno) {
	t.Helper()
	if y, e := One(c, x, limbs); tell(y) != want || e != wantE {
		t.Errorf("One(%x, %.40s, %d): %.40s, %d, not %.40s, %d", c, tell(x), limbs, tell(y), e, want, wantE)
	}
}

// TestAgainstOther: every function of many numbers, with as many limbs as the result has,
// more of them, and fewer.
func TestAgainstOther(t *testing.T) {
	for _, text := range edges() {
		x := must(t, text)
		for _, c := range functions {
			y, wantE := doneOf(c, bigOf(t, text))
			needed := math.MaxInt
			want := "0"
			if y != nil {
				needed = limbsOf(y)
				want = y.RatString()
			}
			for _, limbs := range []int{math.MinInt, -1, 0, 1, 2, 3, 62, 63, 64, needed - 1, needed, needed + 1} {
				switch {
				case limbs > api.MaxLimbs:
				case c != '~' && wantE == api.OK && limbs < needed:
					check(t, c, x, limbs, "0", api.ErrLimit)
				default:
					check(t, c, x, limbs, want, wantE)
				}
			}
		}
	}
}

// TestLimbs: calls at the limit whose answers are written out, among them those whose
// result is longer than the number, or shorter, or has its limbs at the bottom.
func TestLimbs(t *testing.T) {
	for _, x := range []struct {
		c     rune
		x     string
		limbs int
		want  string
		wantE api.Errno
	}{
		{'+', "4294967295", 1, "4294967295", api.OK},
		{'+', "4294967296", 1, "0", api.ErrLimit},
		{'+', "4294967296", 2, "4294967296", api.OK},
		{'+', "1/4294967295", 1, "1/4294967295", api.OK},
		{'+', "1/4294967296", 1, "0", api.ErrLimit},
		{'+', "1/4294967296", 2, "1/4294967296", api.OK},
		{'-', "-4294967295", 1, "4294967295", api.OK},
		{'-', "4294967296", 1, "0", api.ErrLimit},
		{'-', "3/4294967296", 1, "0", api.ErrLimit},
		{'-', "3/4294967296", 2, "-3/4294967296", api.OK},
		{'|', "-4294967295", 1, "4294967295", api.OK},
		{'|', "-4294967296", 1, "0", api.ErrLimit},
		{'|', "-1/4294967296", 1, "0", api.ErrLimit},
		{'|', "-1/4294967296", 2, "1/4294967296", api.OK},
		{'|', "4294967296", 1, "0", api.ErrLimit},
		{0xf7, "4294967295", 1, "1/4294967295", api.OK},
		{0xf7, "4294967296", 1, "0", api.ErrLimit},
		{0xf7, "-4294967296", 2, "-1/4294967296", api.OK},
		{0xf7, "1/4294967296", 1, "0", api.ErrLimit},
		{0xf7, "1/4294967296", 2, "4294967296", api.OK},
		{0xd7, "4294967296", 1, "1", api.OK},
		{0xd7, "-1/18446744073709551616", 1, "-1", api.OK},
		{0xd7, "5", 0, "0", api.ErrLimit},
		{0xd7, "0", 0, "0", api.ErrLimit},
		{0x2308, "8589934591/2", 1, "0", api.ErrLimit},
		{0x2308, "8589934591/2", 2, "4294967296", api.OK},
		{0x230a, "8589934591/2", 1, "4294967295", api.OK},
		{0x2308, "-8589934591/2", 1, "-4294967295", api.OK},
		{0x230a, "-8589934591/2", 1, "0", api.ErrLimit},
		{0x230a, "-8589934591/2", 2, "-4294967296", api.OK},
		{0x2308, "1/18446744073709551616", 1, "1", api.OK},
		{0x230a, "1/18446744073709551616", 1, "0", api.OK},
		{0x2308, "-1/18446744073709551616", 1, "0", api.OK},
		{0x230a, "-1/18446744073709551616", 1, "-1", api.OK},
		{0x230a, "1/2", 0, "0", api.ErrLimit},
		{'!', "0", 0, "0", api.ErrLimit},
		{'!', "0", 1, "1", api.OK},
		{'!', "1", 0, "0", api.ErrLimit},
		{'!', "1", 1, "1", api.OK},
		{'!', "2", 0, "0", api.ErrLimit},
		{'!', "2", 1, "2", api.OK},
		{'!', "12", 1, "479001600", api.OK},
		{'!', "13", 1, "0", api.ErrLimit},
		{'!', "13", 2, "6227020800", api.OK},
		{'!', "20", 2, "2432902008176640000", api.OK},
		{'!', "21", 2, "0", api.ErrLimit},
		{'!', "21", 3, "51090942171709440000", api.OK},
	} {
		check(t, x.c, must(t, x.x), x.limbs, x.want, x.wantE)
	}
}

// TestFactorials: all up to the limit, and those beyond it.
func TestFactorials(t *testing.T) {
	want := big.NewInt(1)
	last := 0
	for n := range 400 {
		want.Mul(want, big.NewInt(int64(max(n, 1))))
		limbs := limbsOf(new(big.Rat).SetInt(want))
		x := ratio.From(n)
		check(t, '!', x, min(limbs-1, api.MaxLimbs), "0", api.ErrLimit)
		if limbs > api.MaxLimbs {
			continue
		}
		last = n
		check(t, '!', x, limbs, want.String(), api.OK)
		check(t, '!', x, api.MaxLimbs, want.String(), api.OK)
	}
	if last != 300 {
		t.Errorf("the last factorial is that of %d", last)
	}
}

// TestFactorialsFarBeyond: they end, however great the number is.
func TestFactorialsFarBeyond(t *testing.T) {
	for _, text := range []string{
		"1000", "5000", "4294967295", "4294967296", "1000000000000000000", "9223372036854775807", "9223372036854775808",
		"18446744073709551615", "18446744073709551616", "18446744073709551617", "18446744073709551618",
		new(big.Int).Lsh(big.NewInt(1), 2047).String(), new(big.Int).Lsh(big.NewInt(1), 10000).String(),
	} {
		for _, limbs := range []int{math.MinInt, -1, 0, 1, 2, 64} {
			check(t, '!', must(t, text), limbs, "0", api.ErrLimit)
		}
	}
	if y, e := One('!', ratio.From(math.MaxInt), math.MaxInt); e != api.ErrLimit || tell(y) != "0" {
		t.Errorf("more limbs than are allowed: %.40s, %d", tell(y), e)
	}
}

// one returns what a function does to a number that it must know.
func one(t *testing.T, c rune, x ratio.Rat) ratio.Rat {
	t.Helper()
	y, e := One(c, x, api.MaxLimbs)
	if e != api.OK {
		t.Fatalf("One(%x, %.40s): %d", c, tell(x), e)
	}
	return y
}

// TestProperties: minus twice, the reciprocal twice, and how far Ceil and Floor are from
// the number (P12.3).
func TestProperties(t *testing.T) {
	texts := []string{}
	for _, text := range edges() {
		if limbsOf(bigOf(t, text)) < api.MaxLimbs {
			texts = append(texts, text)
		}
	}
	for top := int64(-40); top <= 40; top++ {
		for bot := int64(1); bot <= 12; bot++ {
			texts = append(texts, big.NewRat(top, bot).RatString())
		}
	}
	for _, text := range texts {
		x := must(t, text)
		if y := one(t, '-', one(t, '-', x)); tell(y) != text {
			t.Errorf("minus %.40s twice: %.40s", text, tell(y))
		}
		if x.Sign() != 0 {
			if y := one(t, 0xf7, one(t, 0xf7, x)); tell(y) != text {
				t.Errorf("the reciprocal of %.40s twice: %.40s", text, tell(y))
			}
		}
		up, down := one(t, 0x2308, x), one(t, 0x230a, x)
		above, below := up.Plus(x.Minus()), x.Plus(down.Minus())
		if !up.IsWhole() || above.Sign() < 0 || above.Cmp(ratio.From(1)) >= 0 {
			t.Errorf("ceil of %.40s: %.40s", text, tell(up))
		}
		if !down.IsWhole() || below.Sign() < 0 || below.Cmp(ratio.From(1)) >= 0 {
			t.Errorf("floor of %.40s: %.40s", text, tell(down))
		}
	}
}
