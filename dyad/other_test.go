package dyad

import (
	"math/big"
	"slices"
	"testing"

	"typeball/api"
	"typeball/ratio"
)

// edges are the numbers at which signs, carries and limbs go wrong.
func edges() []string {
	one := big.NewInt(1)
	tops := []*big.Int{one, big.NewInt(2), big.NewInt(5), big.NewInt(40)}
	for _, n := range []uint{31, 32, 63, 64, 1024, 2048} {
		power := new(big.Int).Lsh(one, n)
		tops = append(tops, power, new(big.Int).Sub(power, one))
	}
	all := []string{"0", "2/3", "-2/3", "7/2", "-355/113"}
	for i, top := range tops {
		x := new(big.Rat).SetInt(top)
		all = append(all, x.RatString(), x.Inv(x).RatString())
		if i%2 == 0 {
			all = append(all, x.Neg(x).RatString(), x.Inv(x).RatString())
		}
	}
	slices.Sort(all)
	return slices.Compact(all)
}

// bigOf returns a number as another implementation has it.
func bigOf(t *testing.T, text string) *big.Rat {
	t.Helper()
	x, ok := new(big.Rat).SetString(text)
	if !ok {
		t.Fatalf("no number: %q", text)
	}
	return x
}

// limbsOf returns how many limbs a number of another implementation has.
func limbsOf(x *big.Rat) int {
	return (max(x.Num().BitLen(), x.Denom().BitLen()) + 31) / 32
}

// bigRest returns what is left of b by a.
func bigRest(a, b *big.Rat) *big.Rat {
	if a.Sign() == 0 {
		return b
	}
	y := new(big.Rat).Quo(b, a)
	// Euclid's quotient by a positive denominator is rounded down.
	y.SetInt(new(big.Int).Div(y.Num(), y.Denom()))
	return y.Sub(b, y.Mul(y, a))
}

// bigPower returns a to the power b; nil: it has more limbs than a number may have.
func bigPower(a, b *big.Rat) (*big.Rat, api.Errno) {
	if !b.IsInt() || a.Sign() == 0 && b.Sign() < 0 {
		return new(big.Rat), api.ErrDomain
	}
	if b.Sign() < 0 {
		a, b = new(big.Rat).Inv(a), new(big.Rat).Neg(b)
	}
	n := b.Num()
	if limbsOf(a) == 1 && a.IsInt() && a.Num().CmpAbs(big.NewInt(1)) <= 0 {
		// Of the powers of -1, 0 and 1 the first four tell all.
		n = new(big.Int).Add(new(big.Int).And(n, big.NewInt(1)), big.NewInt(int64(2*b.Sign())))
	} else if n.Cmp(big.NewInt(2100)) > 0 || n.Sign() > 0 && limbsOf(a) > 64 {
		return nil, api.OK
	}
	y := new(big.Rat).SetInt64(1)
	for range n.Int64() {
		y.Mul(y, a)
		if limbsOf(y) > 64 {
			return nil, api.OK
		}
	}
	return y, api.OK
}

// bigChoices returns the number of ways to choose a of b things; nil: it has more limbs
// than a number may have.
func bigChoices(a, b *big.Rat) (*big.Rat, api.Errno) {
	if !a.IsInt() || !b.IsInt() || a.Sign() < 0 || b.Sign() < 0 {
		return new(big.Rat), api.ErrDomain
	}
	k := new(big.Rat).Sub(b, a)
	if k.Sign() < 0 {
		return k.SetInt64(0), api.OK
	}
	if a.Cmp(k) < 0 {
		k.Set(a)
	}
	if k.Cmp(big.NewRat(2100, 1)) > 0 {
		return nil, api.OK
	}
	y := big.NewRat(1, 1)
	for i := range k.Num().Int64() {
		y.Mul(y, new(big.Rat).Sub(b, big.NewRat(i, 1)))
		y.Quo(y, big.NewRat(i+1, 1))
	}
	return y, api.OK
}

// bigTwo returns what a function does to two numbers of another implementation, as that
// has it, if there were no limit; nil: it has more limbs than a number may have.
func bigTwo(c rune, a, b *big.Rat) (*big.Rat, api.Errno) {
	y := new(big.Rat)
	switch c {
	case '+':
		return y.Add(a, b), api.OK
	case '-':
		return y.Sub(a, b), api.OK
	case 0xd7:
		return y.Mul(a, b), api.OK
	case 0xf7:
		switch {
		case b.Sign() != 0:
			return y.Quo(a, b), api.OK
		case a.Sign() == 0:
			return y.SetInt64(1), api.OK
		}
		return y, api.ErrDomain
	case 0x2308:
		return slices.MaxFunc([]*big.Rat{a, b}, (*big.Rat).Cmp), api.OK
	case 0x230a:
		return slices.MinFunc([]*big.Rat{a, b}, (*big.Rat).Cmp), api.OK
	case '|':
		return bigRest(a, b), api.OK
	case '*':
		return bigPower(a, b)
	case '!':
		return bigChoices(a, b)
	}
	return y, api.ErrDomain
}

// checkLimbs checks calls with as many limbs as the result has, more of them, and fewer.
func checkLimbs(t *testing.T, c rune, a, b ratio.Rat, y *big.Rat, wantE api.Errno) {
	t.Helper()
	switch {
	case y == nil:
		check(t, c, a, b, 1, "0", api.ErrLimit)
		check(t, c, a, b, 64, "0", api.ErrLimit)
		return
	case wantE != api.OK:
		check(t, c, a, b, 1, "0", wantE)
		check(t, c, a, b, 64, "0", wantE)
		return
	}
	needed := limbsOf(y)
	if needed > 1 {
		check(t, c, a, b, min(needed-1, 64), "0", api.ErrLimit)
	}
	if needed <= 64 {
		check(t, c, a, b, needed, y.RatString(), api.OK)
		check(t, c, a, b, 64, y.RatString(), api.OK)
	}
}

// TestAgainstOther: every function that computes a number, of many pairs of numbers.
func TestAgainstOther(t *testing.T) {
	texts := edges()
	for _, a := range texts {
		for _, b := range texts {
			x, y := must(t, a), must(t, b)
			for _, c := range numerics {
				z, wantE := bigTwo(c, bigOf(t, a), bigOf(t, b))
				checkLimbs(t, c, x, y, z, wantE)
			}
		}
	}
}

// TestSmallNumbers: the same of all pairs of small numbers.
func TestSmallNumbers(t *testing.T) {
	var texts []string
	for bot := int64(1); bot <= 4; bot++ {
		for top := int64(-13); top <= 13; top++ {
			texts = append(texts, big.NewRat(top, bot).RatString())
		}
	}
	slices.Sort(texts)
	texts = slices.Compact(texts)
	for _, a := range texts {
		for _, b := range texts {
			x, y := must(t, a), must(t, b)
			for _, c := range numerics {
				z, wantE := bigTwo(c, bigOf(t, a), bigOf(t, b))
				checkLimbs(t, c, x, y, z, wantE)
			}
		}
	}
}
