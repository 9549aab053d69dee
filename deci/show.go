package deci

import (
	"math"
	"strings"

	"typeball/nat"
	"typeball/ratio"
	"typeball/whole"
)

const (
	// leastPlain is the least exponent with which a number is written without it.
	leastPlain = -6

	// groupDigits is how many digits are worked out at once.
	groupDigits = 18

	// mostShown is the most digits that the document promises a result for: a
	// text with more has more than 2^31 - 1 bytes.
	mostShown = math.MaxInt32
)

// Show returns the number with its first many digits; a value of many below 1
// counts as 1.
func Show(a ratio.Rat, many int) string {
	if a.Sign() == 0 {
		return "0"
	}
	// Without an upper bound the digits of 1/3 would have no end in practice.
	many = min(max(many, 1), mostShown)
	digits, e := firstDigits(a.Top().Size(), a.Bot(), many)
	text := written(digits, e, many)
	if a.Sign() < 0 {
		return string(High) + text
	}
	return text
}

// written returns the number whose digits are these and whose first digit has the
// exponent e.
func written(digits string, e, many int) string {
	switch {
	case e >= many || e < leastPlain:
		return pointed(digits, 1) + string(tens) + whole.From(e).Digits(string(High))
	case e < 0:
		return "0" + string(point) + strings.Repeat("0", -e-1) + digits
	}
	return pointed(digits, e+1)
}

// pointed returns the digits with a point after the first n, if there are more,
// and with zeros up to n, if there are fewer.
func pointed(digits string, n int) string {
	if len(digits) > n {
		return digits[:n] + string(point) + digits[n:]
	}
	return digits + strings.Repeat("0", n-len(digits))
}

// firstDigits returns the first many digits of top divided by bot, neither of
// which is 0, rounded, without trailing zeros, and the exponent of the first one.
func firstDigits(top, bot nat.Nat, many int) (string, int) {
	rest, bot, e := scaled(top, bot)
	var digits []byte
	// Group by group, since the digits may end long before there are many.
	for len(digits) < many && !rest.Zero() {
		n := min(groupDigits, many-len(digits))
		var group nat.Nat
		group, rest, _ = rest.Mul(tenTo(n)).DivMod(bot)
		text := group.Text()
		digits = append(digits, strings.Repeat("0", n-len(text))...)
		digits = append(digits, text...)
	}
	if rest.Add(rest).Cmp(bot) < 0 {
		return strings.TrimRight(string(digits), "0"), e
	}
	return roundedUp(string(digits), e)
}

// scaled returns two numbers with the same digits in their quotient, of which the
// first digit follows the point, and the exponent that this digit has in the
// quotient of top and bot.
func scaled(top, bot nat.Nat) (nat.Nat, nat.Nat, int) {
	e := len(top.Text()) - len(bot.Text())
	top, bot = top.Mul(tenTo(-e)), bot.Mul(tenTo(e))
	// With as many digits in both, the quotient is between 1/10 and 10.
	if top.Cmp(bot) < 0 {
		return top, bot, e - 1
	}
	return top, bot.Mul(tenTo(1)), e
}

// roundedUp returns the digits with the last one raised by 1, without trailing
// zeros, and the exponent of the first one, which was e.
func roundedUp(digits string, e int) (string, int) {
	// Nines become zeros, which are trailing ones then.
	kept := strings.TrimRight(digits, "9")
	if kept == "" {
		return "1", e + 1
	}
	last := len(kept) - 1
	return kept[:last] + string(rune(kept[last]+1)), e
}
