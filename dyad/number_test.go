package dyad

import (
	"testing"

	"typeball/api"
	"typeball/ratio"
)

// call is one call of Two, and what it answers.
type call struct {
	c     rune
	a, b  string
	want  string
	wantE api.Errno
}

// calls are calls far below the limit.
var calls = []call{
	{c: '+', a: "2", b: "3", want: "5"},
	{c: '+', a: "0", b: "0", want: "0"},
	{c: '+', a: "-1", b: "1", want: "0"},
	{c: '+', a: "-5", b: "3", want: "-2"},
	{c: '+', a: "1/2", b: "1/3", want: "5/6"},
	{c: '+', a: "1/2", b: "1/2", want: "1"},
	{c: '+', a: "-1/6", b: "2", want: "11/6"},
	{c: '+', a: "18446744073709551615", b: "1", want: "18446744073709551616"},
	{c: '+', a: "99999999999999999999", b: "1/3", want: "299999999999999999998/3"},

	{c: '-', a: "2", b: "3", want: "-1"},
	{c: '-', a: "3", b: "2", want: "1"},
	{c: '-', a: "0", b: "7", want: "-7"},
	{c: '-', a: "-2", b: "-3", want: "1"},
	{c: '-', a: "1/2", b: "1/3", want: "1/6"},
	{c: '-', a: "1/3", b: "1/2", want: "-1/6"},
	{c: '-', a: "7/2", b: "7/2", want: "0"},
	{c: '-', a: "18446744073709551616", b: "1", want: "18446744073709551615"},

	{c: 0xd7, a: "2", b: "3", want: "6"},
	{c: 0xd7, a: "0", b: "-3", want: "0"},
	{c: 0xd7, a: "-2", b: "3", want: "-6"},
	{c: 0xd7, a: "-2", b: "-3", want: "6"},
	{c: 0xd7, a: "2/3", b: "3/2", want: "1"},
	{c: 0xd7, a: "-2/3", b: "9/4", want: "-3/2"},
	{c: 0xd7, a: "18446744073709551616", b: "18446744073709551616", want: "340282366920938463463374607431768211456"},

	{c: 0xf7, a: "6", b: "3", want: "2"},
	{c: 0xf7, a: "3", b: "6", want: "1/2"},
	{c: 0xf7, a: "3", b: "-6", want: "-1/2"},
	{c: 0xf7, a: "-3", b: "-6", want: "1/2"},
	{c: 0xf7, a: "0", b: "5", want: "0"},
	{c: 0xf7, a: "0", b: "-1/2", want: "0"},
	{c: 0xf7, a: "2/3", b: "4/9", want: "3/2"},
	{c: 0xf7, a: "0", b: "0", want: "1"},
	{c: 0xf7, a: "1", b: "0", wantE: api.ErrDomain},
	{c: 0xf7, a: "-1", b: "0", wantE: api.ErrDomain},
	{c: 0xf7, a: "1/2", b: "0", wantE: api.ErrDomain},
	{c: 0xf7, a: "99999999999999999999", b: "0", wantE: api.ErrDomain},
	{c: 0xf7, a: "-1/99999999999999999999", b: "0", wantE: api.ErrDomain},

	{c: 0x2308, a: "2", b: "3", want: "3"},
	{c: 0x2308, a: "3", b: "2", want: "3"},
	{c: 0x2308, a: "-2", b: "-3", want: "-2"},
	{c: 0x2308, a: "-3", b: "-2", want: "-2"},
	{c: 0x2308, a: "7", b: "7", want: "7"},
	{c: 0x2308, a: "-7/2", b: "-7/2", want: "-7/2"},
	{c: 0x2308, a: "1/2", b: "1/3", want: "1/2"},
	{c: 0x2308, a: "1/3", b: "1/2", want: "1/2"},
	{c: 0x2308, a: "0", b: "-1/2", want: "0"},
	{c: 0x2308, a: "99999999999999999999", b: "100000000000000000000", want: "100000000000000000000"},

	{c: 0x230a, a: "2", b: "3", want: "2"},
	{c: 0x230a, a: "3", b: "2", want: "2"},
	{c: 0x230a, a: "-2", b: "-3", want: "-3"},
	{c: 0x230a, a: "-3", b: "-2", want: "-3"},
	{c: 0x230a, a: "7", b: "7", want: "7"},
	{c: 0x230a, a: "-7/2", b: "-7/2", want: "-7/2"},
	{c: 0x230a, a: "1/2", b: "1/3", want: "1/3"},
	{c: 0x230a, a: "1/3", b: "1/2", want: "1/3"},
	{c: 0x230a, a: "0", b: "-1/2", want: "-1/2"},
	{c: 0x230a, a: "99999999999999999999", b: "100000000000000000000", want: "99999999999999999999"},

	{c: '|', a: "3", b: "7", want: "1"},
	{c: '|', a: "7", b: "3", want: "3"},
	{c: '|', a: "3", b: "-7", want: "2"},
	{c: '|', a: "-3", b: "7", want: "-2"},
	{c: '|', a: "-3", b: "-7", want: "-1"},
	{c: '|', a: "3", b: "6", want: "0"},
	{c: '|', a: "-3", b: "6", want: "0"},
	{c: '|', a: "0", b: "7", want: "7"},
	{c: '|', a: "0", b: "-7/2", want: "-7/2"},
	{c: '|', a: "0", b: "0", want: "0"},
	{c: '|', a: "5", b: "0", want: "0"},
	{c: '|', a: "1", b: "7/2", want: "1/2"},
	{c: '|', a: "1", b: "-7/2", want: "1/2"},
	{c: '|', a: "-1", b: "7/2", want: "-1/2"},
	{c: '|', a: "1/2", b: "2/3", want: "1/6"},
	{c: '|', a: "-1/2", b: "2/3", want: "-1/3"},
	{c: '|', a: "2/3", b: "-1/2", want: "1/6"},
	{c: '|', a: "10", b: "99999999999999999999", want: "9"},
	{c: '|', a: "99999999999999999999", b: "-1", want: "99999999999999999998"},

	{c: 0x235f, a: "2", b: "8", wantE: api.ErrDomain},
	{c: 0x25cb, a: "0", b: "1", wantE: api.ErrDomain},
}

func TestTwo(t *testing.T) {
	for _, x := range calls {
		check(t, x.c, must(t, x.a), must(t, x.b), 64, x.want, x.wantE)
	}
}

// TestNeverAnswered: two functions answer ErrDomain for all numbers.
func TestNeverAnswered(t *testing.T) {
	for _, c := range []rune{0x235f, 0x25cb} {
		for _, a := range ascending() {
			for _, b := range ascending() {
				check(t, c, must(t, a), must(t, b), 1, "0", api.ErrDomain)
				check(t, c, must(t, a), must(t, b), 64, "0", api.ErrDomain)
			}
		}
	}
}

// TestLimbs: calls whose result has just as many limbs as are given, and so more than one
// limb fewer; some have them above the line, some below.
func TestLimbs(t *testing.T) {
	for _, x := range []struct {
		c     rune
		a, b  string
		limbs int
		want  string
	}{
		{'+', "4294967294", "1", 1, "4294967295"},
		{'+', "4294967295", "1", 2, "4294967296"},
		{'+', "-4294967295", "-1", 2, "-4294967296"},
		{'+', "1/65536", "1/65535", 1, "131071/4294901760"},
		{'+', "1/65536", "1/65537", 2, "131073/4295032832"},
		{'+', "18446744073709551616", "-18446744073709551616", 1, "0"},
		{'+', "18446744073709551616", "-1", 2, "18446744073709551615"},
		{'-', "0", "4294967296", 2, "-4294967296"},
		{'-', "4294967296", "1", 1, "4294967295"},
		{'-', "1/65536", "1/65537", 2, "1/4295032832"},
		{'-', "18446744073709551617", "18446744073709551616", 1, "1"},
		{0xd7, "65535", "65537", 1, "4294967295"},
		{0xd7, "65536", "-65536", 2, "-4294967296"},
		{0xd7, "1/65536", "-1/65536", 2, "-1/4294967296"},
		{0xd7, "1/18446744073709551616", "18446744073709551616", 1, "1"},
		{0xd7, "0", "18446744073709551616", 1, "0"},
		{0xf7, "1", "4294967295", 1, "1/4294967295"},
		{0xf7, "1", "4294967296", 2, "1/4294967296"},
		{0xf7, "-4294967296", "1", 2, "-4294967296"},
		{0xf7, "18446744073709551616", "18446744073709551616", 1, "1"},
		{0xf7, "0", "18446744073709551616", 1, "0"},
		{0xf7, "0", "0", 1, "1"},
		{0x2308, "4294967295", "4294967294", 1, "4294967295"},
		{0x2308, "4294967296", "1", 2, "4294967296"},
		{0x2308, "-18446744073709551616", "1", 1, "1"},
		{0x2308, "1/4294967296", "0", 2, "1/4294967296"},
		{0x230a, "4294967296", "1", 1, "1"},
		{0x230a, "4294967296", "18446744073709551616", 2, "4294967296"},
		{0x230a, "-4294967296", "1", 2, "-4294967296"},
		{0x230a, "1/4294967296", "1", 2, "1/4294967296"},
		{'|', "0", "4294967296", 2, "4294967296"},
		{'|', "4294967296", "-1", 1, "4294967295"},
		{'|', "4294967297", "-1", 2, "4294967296"},
		{'|', "1/65536", "1/65537", 1, "1/65537"},
		{'|', "1/65537", "1/65536", 2, "1/4295032832"},
		{'|', "18446744073709551616", "18446744073709551617", 1, "1"},
		{'|', "1", "1/4294967296", 2, "1/4294967296"},
		{'*', "2", "31", 1, "2147483648"},
		{'*', "2", "32", 2, "4294967296"},
		{'*', "2", "-31", 1, "1/2147483648"},
		{'*', "-2", "-32", 2, "1/4294967296"},
		{'*', "1/2", "32", 2, "1/4294967296"},
		{'*', "1/2", "-32", 2, "4294967296"},
		{'*', "2/3", "20", 1, "1048576/3486784401"},
		{'*', "2/3", "21", 2, "2097152/10460353203"},
		{'*', "4294967296", "1", 2, "4294967296"},
		{'*', "4294967296", "-1", 2, "1/4294967296"},
		{'*', "18446744073709551616", "0", 1, "1"},
		{'!', "1", "4294967295", 1, "4294967295"},
		{'!', "1", "4294967296", 2, "4294967296"},
		{'!', "17", "34", 1, "2333606220"},
		{'!', "17", "35", 2, "4537567650"},
		{'!', "4294967296", "4294967297", 2, "4294967297"},
		{'!', "18446744073709551616", "18446744073709551616", 1, "1"},
		{'!', "0", "18446744073709551616", 1, "1"},
		{'!', "18446744073709551616", "1", 1, "0"},
	} {
		a, b := must(t, x.a), must(t, x.b)
		check(t, x.c, a, b, x.limbs, x.want, api.OK)
		check(t, x.c, a, b, x.limbs+1, x.want, api.OK)
		check(t, x.c, a, b, 64, x.want, api.OK)
		if x.limbs > 1 {
			check(t, x.c, a, b, x.limbs-1, "0", api.ErrLimit)
		}
	}
}

// shifted returns 2 to the power n, plus d.
func shifted(n, d int) ratio.Rat {
	x, _ := ratio.From(2).Pow(n, 1000)
	return x.Plus(ratio.From(d))
}

// below returns 1 divided by a number.
func below(x ratio.Rat) ratio.Rat {
	y, _ := ratio.From(1).By(x)
	return y
}

// TestMostLimbs: results with just as many limbs as a number may ever have, and such as
// have one more.
func TestMostLimbs(t *testing.T) {
	one, two := ratio.From(1), ratio.From(2)
	last, next := shifted(2048, -1), shifted(2048, 0)
	for _, x := range []struct {
		c    rune
		a, b ratio.Rat
		want ratio.Rat
	}{
		{'+', shifted(2048, -2), one, last},
		{'-', shifted(2048, -2).Minus(), one, last.Minus()},
		{0xd7, shifted(1024, -1), shifted(1024, 1), last},
		{0xd7, below(shifted(1024, -1)), below(shifted(1024, 1)), below(last)},
		{0xf7, last, one, last},
		{0xf7, one, last, below(last)},
		{0x2308, last, one, last},
		{0x230a, last.Minus(), one, last.Minus()},
		{0x230a, below(last), one, below(last)},
		{'|', next, one.Minus(), last},
		{'*', last, one, last},
		{'*', last, one.Minus(), below(last)},
		{'*', two, ratio.From(2047), shifted(2047, 0)},
		{'*', two, ratio.From(-2047), below(shifted(2047, 0))},
		{'!', one, last, last},
		{'!', shifted(2048, -2), last, last},
	} {
		check(t, x.c, x.a, x.b, 64, tell(x.want), api.OK)
		check(t, x.c, x.a, x.b, 63, "0", api.ErrLimit)
	}
	for _, x := range []struct {
		c    rune
		a, b ratio.Rat
	}{
		{'+', last, one}, {'-', last.Minus(), one}, {0xd7, shifted(1024, 0), shifted(1024, 0)}, {0xd7, below(shifted(1024, 0)), below(shifted(1024, 0))},
		{0xf7, next, one}, {0xf7, one, next}, {0x2308, next, one}, {0x2308, below(next), ratio.From(0)}, {0x230a, next, shifted(2048, 1)}, {0x230a, below(next), one},
		{'|', ratio.From(0), next}, {'|', shifted(2048, 1), one.Minus()}, {'*', next, one}, {'*', next, one.Minus()}, {'*', two, ratio.From(2048)}, {'*', two, ratio.From(-2048)},
		{'!', one, next}, {'!', last, next},
	} {
		check(t, x.c, x.a, x.b, 64, "0", api.ErrLimit)
	}
}

// TestDomainGoesFirst: numbers that are none for the function are ErrDomain also where
// they, or what could be worked out of them, have too many limbs.
func TestDomainGoesFirst(t *testing.T) {
	long := tell(shifted(3000, 1))
	for _, x := range []struct {
		c    rune
		a, b string
	}{
		{0xf7, long, "0"}, {0xf7, "1/" + long, "0"}, {0xf7, "-" + long, "0"},
		{'*', long, "1/2"}, {'*', long, "-1/2"}, {'*', long, "1/" + long}, {'*', long, long + "/2"}, {'*', "0", "-" + long}, {'*', "1/" + long, "99999999999999999999/2"},
		{'!', "-1", long}, {'!', long, "-1"}, {'!', "1/2", long}, {'!', long, "1/2"}, {'!', "-" + long, "-" + long}, {'!', "1/" + long, long},
		{0x235f, long, long}, {0x25cb, long, long}, {0x2227, long, "1"}, {0x2228, "1", long}, {0x2372, long, long}, {0x2371, "0", "1/" + long},
	} {
		for _, limbs := range []int{1, 64} {
			check(t, x.c, must(t, x.a), must(t, x.b), limbs, "0", api.ErrDomain)
		}
	}
}
