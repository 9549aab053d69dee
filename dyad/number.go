package dyad

import (
	"typeball/api"
	"typeball/ratio"
	"typeball/whole"
)

// limited returns what a function that computes a new number does to two numbers;
// ErrLimit if this has more than limbs limbs.
func limited(c rune, a, b ratio.Rat, limbs int) (ratio.Rat, api.Errno) {
	// Nobody may ask for more limbs: so choosing ends, however many things there are.
	limbs = min(limbs, api.MaxLimbs)
	y, e := computed(c, a, b, limbs)
	switch {
	case e != api.OK:
		return ratio.Rat{}, e
	case y.Limbs() > limbs:
		return ratio.Rat{}, api.ErrLimit
	}
	return y, api.OK
}

// computed returns what a function does to two numbers, or a number that has, as that
// one, more than limbs limbs.
func computed(c rune, a, b ratio.Rat, limbs int) (ratio.Rat, api.Errno) {
	switch c {
	case '+':
		return a.Plus(b), api.OK
	case '-':
		return a.Plus(b.Minus()), api.OK
	case times:
		return a.Times(b), api.OK
	case divide:
		return quotient(a, b)
	case upper:
		return greater(a, b), api.OK
	case lower:
		return lesser(a, b), api.OK
	case '|':
		return a.Rest(b), api.OK
	case '*':
		return power(a, b, limbs)
	case '!':
		return choices(a, b, limbs)
	}
	return ratio.Rat{}, api.ErrDomain
}

// quotient returns a divided by b; 1 if both are 0.
func quotient(a, b ratio.Rat) (ratio.Rat, api.Errno) {
	if a.Sign() == 0 && b.Sign() == 0 {
		return ratio.From(1), api.OK
	}
	y, ok := a.By(b)
	if !ok {
		return ratio.Rat{}, api.ErrDomain
	}
	return y, api.OK
}

// greater returns the greater one of two numbers.
func greater(a, b ratio.Rat) ratio.Rat {
	if a.Cmp(b) < 0 {
		return b
	}
	return a
}

// lesser returns the lesser one of two numbers.
func lesser(a, b ratio.Rat) ratio.Rat {
	if a.Cmp(b) > 0 {
		return b
	}
	return a
}

// power returns a to the power b; ErrLimit if this has more than limbs limbs.
func power(a, b ratio.Rat, limbs int) (ratio.Rat, api.Errno) {
	switch {
	case !b.IsWhole() || a.Sign() == 0 && b.Sign() < 0:
		return ratio.Rat{}, api.ErrDomain
	case b.Sign() == 0:
		return ratio.From(1), api.OK
	case a.Limited() && b.Top().Even():
		// The powers of -1, 0 and 1 repeat: so their exponents may be beyond every int.
		return a.Times(a), api.OK
	case a.Limited():
		return a, api.OK
	}
	n, ok := b.Int()
	if !ok {
		return ratio.Rat{}, api.ErrLimit
	}
	y, ok := a.Pow(n, limbs)
	if !ok {
		return ratio.Rat{}, api.ErrLimit
	}
	return y, api.OK
}

// choices returns the number of ways to choose a of b things, or that to choose some of
// fewer things, if this alone has more than limbs limbs.
func choices(a, b ratio.Rat, limbs int) (ratio.Rat, api.Errno) {
	if !isCount(a) || !isCount(b) {
		return ratio.Rat{}, api.ErrDomain
	}
	few, rest := a.Top(), b.Top().Plus(a.Top().Minus())
	if rest.Neg() {
		return ratio.From(0), api.OK
	}
	// To choose some things is to choose the rest, too: so the fewer ones are counted.
	if rest.Cmp(few) < 0 {
		few, rest = rest, few
	}
	last, ok := few.Int()
	if !ok {
		return ratio.Rat{}, api.ErrLimit
	}
	// The ways to choose i of i+rest things, where rest is at least i, are at least 2 to
	// the power i: so the loop ends soon, however great the numbers are.
	ways := whole.From(1)
	for i := 1; i <= last && ways.Limbs() <= limbs; i++ {
		chosen := whole.From(i)
		ways, _, _ = ways.Times(rest.Plus(chosen)).Floor(chosen)
	}
	return ratio.Whole(ways), api.OK
}

// isCount reports whether a number is an integer that is not negative.
func isCount(x ratio.Rat) bool { return x.IsWhole() && x.Sign() >= 0 }
