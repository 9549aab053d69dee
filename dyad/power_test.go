package dyad

import (
	"math"
	"strings"
	"testing"

	"typeball/api"
	"typeball/ratio"
)

func TestPowers(t *testing.T) {
	long := "1" + strings.Repeat("0", 700)
	for _, x := range []call{
		{a: "-2", b: "3", want: "-8"},
		{a: "-2", b: "4", want: "16"},
		{a: "2", b: "-3", want: "1/8"},
		{a: "-2", b: "-3", want: "-1/8"},
		{a: "-2", b: "-4", want: "1/16"},
		{a: "2/3", b: "-2", want: "9/4"},
		{a: "-2/3", b: "3", want: "-8/27"},
		{a: "-2/3", b: "-3", want: "-27/8"},
		{a: "1/2", b: "-10", want: "1024"},
		{a: "10", b: "20", want: "100000000000000000000"},
		{a: "7/2", b: "1", want: "7/2"},
		{a: "7/2", b: "-1", want: "2/7"},
		{a: long, b: "0", want: "1"},
		{a: "-" + long, b: "0", want: "1"},
		{a: "-1/" + long, b: "0", want: "1"},
		{a: "7/2", b: "0", want: "1"},

		{a: "0", b: "0", want: "1"},
		{a: "0", b: "1", want: "0"},
		{a: "0", b: "2", want: "0"},
		{a: "0", b: "9223372036854775807", want: "0"},
		{a: "0", b: "9223372036854775808", want: "0"},
		{a: "0", b: "9223372036854775809", want: "0"},
		{a: "0", b: long, want: "0"},
		{a: "0", b: "-1", wantE: api.ErrDomain},
		{a: "0", b: "-2", wantE: api.ErrDomain},
		{a: "0", b: "-9223372036854775808", wantE: api.ErrDomain},
		{a: "0", b: "-" + long, wantE: api.ErrDomain},
		{a: "0", b: "1/2", wantE: api.ErrDomain},
		{a: "0", b: "-1/2", wantE: api.ErrDomain},

		{a: "1", b: "0", want: "1"},
		{a: "1", b: "1", want: "1"},
		{a: "1", b: "-1", want: "1"},
		{a: "1", b: "-9223372036854775808", want: "1"},
		{a: "1", b: long, want: "1"},
		{a: "1", b: "-" + long, want: "1"},
		{a: "1", b: "1/2", wantE: api.ErrDomain},
		{a: "1", b: "-3/2", wantE: api.ErrDomain},

		{a: "-1", b: "0", want: "1"},
		{a: "-1", b: "1", want: "-1"},
		{a: "-1", b: "2", want: "1"},
		{a: "-1", b: "-1", want: "-1"},
		{a: "-1", b: "-2", want: "1"},
		{a: "-1", b: "9223372036854775807", want: "-1"},
		{a: "-1", b: "9223372036854775808", want: "1"},
		{a: "-1", b: "9223372036854775809", want: "-1"},
		{a: "-1", b: "-9223372036854775807", want: "-1"},
		{a: "-1", b: "-9223372036854775808", want: "1"},
		{a: "-1", b: "-9223372036854775809", want: "-1"},
		{a: "-1", b: "18446744073709551617", want: "-1"},
		{a: "-1", b: long, want: "1"},
		{a: "-1", b: "-" + strings.Repeat("9", 700), want: "-1"},
		{a: "-1", b: "1/2", wantE: api.ErrDomain},
		{a: "-1", b: "1/3", wantE: api.ErrDomain},

		{a: "4", b: "1/2", wantE: api.ErrDomain},
		{a: "4", b: "-1/2", wantE: api.ErrDomain},
		{a: "1/4", b: "3/2", wantE: api.ErrDomain},
		{a: "-8", b: "1/3", wantE: api.ErrDomain},
	} {
		check(t, '*', must(t, x.a), must(t, x.b), 64, x.want, x.wantE)
	}
}

// TestPowersFarBeyond: they end, however great the exponents are.
func TestPowersFarBeyond(t *testing.T) {
	long := "1" + strings.Repeat("0", 700)
	for _, a := range []string{"2", "-2", "1/2", "-1/2", "3/2", "4294967295/4294967296", long, "1/" + long, long + "/3"} {
		for _, b := range []string{
			"100000", "4294967296", "4611686018427387904", "9223372036854775807", "9223372036854775808", "9223372036854775809",
			"18446744073709551615", "18446744073709551616", "18446744073709551617", "18446744073709551618", long,
		} {
			for _, limbs := range []int{1, 2, 64} {
				check(t, '*', must(t, a), must(t, b), limbs, "0", api.ErrLimit)
				check(t, '*', must(t, a), must(t, "-"+b), limbs, "0", api.ErrLimit)
			}
		}
	}
}

// raised returns the power that must have no more limbs than a number may have.
func raised(t *testing.T, a ratio.Rat, n int) ratio.Rat {
	t.Helper()
	y, e := Two('*', a, ratio.From(n), api.MaxLimbs)
	if e != api.OK {
		t.Fatalf("%s * %d: %d", tell(a), n, e)
	}
	return y
}

// bases are numbers that are not 0, which have negative powers, too.
func bases() []ratio.Rat {
	all := []ratio.Rat{ratio.From(math.MaxInt), ratio.From(math.MinInt), ratio.From(1 << 32), below(ratio.From(-1 << 32))}
	for top := -9; top <= 9; top++ {
		for bot := 1; bot <= 5; bot++ {
			a, _ := ratio.From(top).By(ratio.From(bot))
			if a.Sign() != 0 {
				all = append(all, a)
			}
		}
	}
	return all
}

// TestPowerLaws: sums and products of exponents, and negative ones (P13.4).
func TestPowerLaws(t *testing.T) {
	for _, a := range bases() {
		for m := -5; m <= 5; m++ {
			for n := -5; n <= 5; n++ {
				one, other := raised(t, a, m), raised(t, a, n)
				check(t, '*', a, ratio.From(m+n), 64, tell(one.Times(other)), api.OK)
				check(t, 0xd7, one, other, 64, tell(raised(t, a, m+n)), api.OK)
				check(t, '*', one, ratio.From(n), 64, tell(raised(t, a, m*n)), api.OK)
			}
			check(t, 0xf7, ratio.From(1), raised(t, a, m), 64, tell(raised(t, a, -m)), api.OK)
		}
	}
}

// TestPowersOfZero: the same laws, where no exponent is negative.
func TestPowersOfZero(t *testing.T) {
	zero := ratio.From(0)
	for m := range 4 {
		for n := range 4 {
			check(t, 0xd7, raised(t, zero, m), raised(t, zero, n), 1, tell(raised(t, zero, m+n)), api.OK)
			check(t, '*', raised(t, zero, m), ratio.From(n), 1, tell(raised(t, zero, m*n)), api.OK)
		}
	}
}
