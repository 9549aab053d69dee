package ratio

import (
	"math"

	"typeball/api"
	"typeball/nat"
	"typeball/whole"
)

// pieceDigits is the most digits that nat.Parse reads.
const pieceDigits = 2000

// Num returns the number as digits.
func (a Rat) Num() api.Num {
	return api.Num{Neg: a.Sign() < 0, Top: a.top.Text(), Bot: a.Bot().Text()}
}

// Of returns the number whose Num is n, and true; 0 and false if there is none.
func Of(n api.Num) (Rat, bool) {
	top, okTop := read(n.Top)
	bot, okBot := read(n.Bot)
	if !okTop || !okBot || bot.Zero() {
		return Rat{}, false
	}
	a := lowest(whole.Of(n.Neg, top), bot)
	if a.Num() != n {
		return Rat{}, false
	}
	return a, true
}

// read returns the number that the digits are, and true; 0 and false if they are
// none. A number has as many digits as it needs, so they are read piece by piece.
func read(digits string) (nat.Nat, bool) {
	var sum nat.Nat
	for len(digits) > pieceDigits {
		piece, ok := nat.Parse(digits[:pieceDigits])
		if !ok {
			return nat.Nat{}, false
		}
		sum = shifted(sum, pieceDigits).Add(piece)
		digits = digits[pieceDigits:]
	}
	piece, ok := nat.Parse(digits)
	if !ok {
		return nat.Nat{}, false
	}
	return shifted(sum, len(digits)).Add(piece), true
}

// shifted returns the number that a becomes when n zeros are put behind its digits.
func shifted(a nat.Nat, n int) nat.Nat {
	if a.Zero() {
		return a
	}
	unit, _ := nat.Of(10).Pow(n, math.MaxInt)
	return a.Mul(unit)
}
