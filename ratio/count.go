package ratio

import (
	"math"

	"typeball/whole"
)

// Minus returns the negation.
func (a Rat) Minus() Rat {
	a.top = a.top.Minus()
	return a
}

// Plus returns the sum of a and all numbers of l.
func (a Rat) Plus(l ...Rat) Rat {
	sum := a
	for _, b := range l {
		sum = sum.plusOne(b)
	}
	return sum
}

// plusOne returns the sum of a and one other number.
func (a Rat) plusOne(b Rat) Rat {
	if a.IsWhole() && b.IsWhole() {
		return Whole(a.top.Plus(b.top))
	}
	top := a.top.Times(b.below()).Plus(b.top.Times(a.below()))
	return lowest(top, a.Bot().Mul(b.Bot()))
}

// Times returns the product of a and all numbers of l.
func (a Rat) Times(l ...Rat) Rat {
	product := a
	for _, b := range l {
		product = lowest(product.top.Times(b.top), product.Bot().Mul(b.Bot()))
	}
	return product
}

// By returns a divided by b, and true; 0 and false if b is 0.
func (a Rat) By(b Rat) (Rat, bool) {
	return New(a.top.Times(b.below()), b.top.Times(a.below()))
}

// Floor returns the greatest integer that is not greater than the number.
func (a Rat) Floor() whole.Int {
	floor, _, _ := a.top.Floor(a.below())
	return floor
}

// Ceil returns the least integer that is not less than the number.
func (a Rat) Ceil() whole.Int { return a.Minus().Floor().Minus() }

// Rest returns what is left of x by a: x minus a times the floor of x divided by a;
// x if a is 0.
func (a Rat) Rest(x Rat) Rat {
	quotient, ok := x.By(a)
	if !ok {
		return x
	}
	return x.Plus(a.Times(Whole(quotient.Floor())).Minus())
}

// Pow returns a to the power n and true; 0 and false if a is 0 and n is negative, or
// if the power has more than most limbs, n is not 0, and a is not Limited.
func (a Rat) Pow(n, most int) (Rat, bool) {
	if n >= 0 {
		return a.raised(n, most)
	}
	inverse, ok := From(1).By(a)
	switch {
	case !ok:
		return Rat{}, false
	case n == math.MinInt:
		// Its negation is no int, but its half's is.
		return inverse.Times(inverse).raised(-(n / 2), most)
	}
	return inverse.raised(-n, most)
}

// raised is Pow for an n that is not negative.
func (a Rat) raised(n, most int) (Rat, bool) {
	// If a is not Limited, the greater one of the two powers has at least one limb,
	// so that a 1 above or below it is never the one that is too long.
	top, okTop := a.top.Size().Pow(n, most)
	bot, okBot := a.Bot().Pow(n, most)
	if !okTop || !okBot {
		return Rat{}, false
	}
	return fraction(a.Sign() < 0 && n%2 == 1, top, bot), true
}
