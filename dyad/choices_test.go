package dyad

import (
	"math/big"
	"strings"
	"testing"

	"typeball/api"
	"typeball/ratio"
)

func TestChoices(t *testing.T) {
	long := "1" + strings.Repeat("0", 600)
	for _, x := range []call{
		{a: "2", b: "5", want: "10"},
		{a: "3", b: "7", want: "35"},
		{a: "4", b: "7", want: "35"},
		{a: "8", b: "7", want: "0"},
		{a: "7", b: "7", want: "1"},
		{a: "0", b: "7", want: "1"},
		{a: "1", b: "7", want: "7"},
		{a: "6", b: "7", want: "7"},
		{a: "0", b: "0", want: "1"},
		{a: "1", b: "0", want: "0"},
		{a: "1", b: "1", want: "1"},
		{a: "0", b: "1", want: "1"},
		{a: "2", b: "1", want: "0"},
		{a: "25", b: "50", want: "126410606437752"},
		{a: "50", b: "100", want: "100891344545564193334812497256"},
		{a: "98", b: "100", want: "4950"},
		{a: "2", b: "9223372036854775807", want: "42535295865117307919086767873688862721"},
		{a: "9223372036854775805", b: "9223372036854775807", want: "42535295865117307919086767873688862721"},
		{a: "18446744073709551615", b: "18446744073709551617", want: "170141183460469231740910675752738881536"},

		{a: "0", b: long, want: "1"},
		{a: long, b: long, want: "1"},
		{a: "1", b: long, want: long},
		{a: strings.Repeat("9", 600), b: long, want: long},
		{a: long, b: strings.Repeat("9", 600), want: "0"},
		{a: long, b: "0", want: "0"},
		{a: "2", b: "1" + strings.Repeat("0", 200), want: "4" + strings.Repeat("9", 199) + "5" + strings.Repeat("0", 199)},

		{a: "-1", b: "7", wantE: api.ErrDomain},
		{a: "7", b: "-1", wantE: api.ErrDomain},
		{a: "-1", b: "-1", wantE: api.ErrDomain},
		{a: "-3", b: "-2", wantE: api.ErrDomain},
		{a: "-2", b: "-3", wantE: api.ErrDomain},
		{a: "0", b: "-1", wantE: api.ErrDomain},
		{a: "-1", b: "0", wantE: api.ErrDomain},
		{a: "1/2", b: "7", wantE: api.ErrDomain},
		{a: "2", b: "7/2", wantE: api.ErrDomain},
		{a: "1/2", b: "1/2", wantE: api.ErrDomain},
		{a: "15/2", b: "7", wantE: api.ErrDomain},
		{a: "-1/2", b: "3", wantE: api.ErrDomain},
		{a: "3", b: "-1/2", wantE: api.ErrDomain},
		{a: "0", b: "1/2", wantE: api.ErrDomain},
		{a: "-" + long, b: "1", wantE: api.ErrDomain},
		{a: "1", b: "-" + long, wantE: api.ErrDomain},
		{a: long, b: "1/3", wantE: api.ErrDomain},
	} {
		check(t, '!', must(t, x.a), must(t, x.b), 64, x.want, x.wantE)
	}
}

// TestTriangle: every number is the sum of the two above it.
func TestTriangle(t *testing.T) {
	row := []*big.Int{big.NewInt(1)}
	for n := range 90 {
		for k, want := range row {
			check(t, '!', ratio.From(k), ratio.From(n), 64, want.String(), api.OK)
		}
		for k := n + 1; k < n+4; k++ {
			check(t, '!', ratio.From(k), ratio.From(n), 1, "0", api.OK)
		}
		next := []*big.Int{big.NewInt(1)}
		for k := range n {
			next = append(next, new(big.Int).Add(row[k], row[k+1]))
		}
		row = append(next, big.NewInt(1))
	}
}

// TestChoicesAtTheLimit: the greatest numbers in the middle of a row, and near its ends,
// that have just 64 limbs, and the next ones.
func TestChoicesAtTheLimit(t *testing.T) {
	for n := 1900; n < 2200; n += 3 {
		for _, k := range []int{0, 1, n / 4, n/2 - 1, n / 2, n/2 + 1, n - n/4, n - 1, n} {
			want := new(big.Int).Binomial(int64(n), int64(k))
			limbs := (want.BitLen() + 31) / 32
			a, b := ratio.From(k), ratio.From(n)
			if limbs <= api.MaxLimbs {
				check(t, '!', a, b, limbs, want.String(), api.OK)
				check(t, '!', a, b, api.MaxLimbs, want.String(), api.OK)
			}
			if limbs > 1 {
				check(t, '!', a, b, min(limbs-1, api.MaxLimbs), "0", api.ErrLimit)
			}
		}
	}
}

// TestChoicesFarBeyond: they end, however many things there are.
func TestChoicesFarBeyond(t *testing.T) {
	for _, half := range []string{
		"3000", "4294967296", "4611686018427387904", "9223372036854775807", "9223372036854775808",
		"18446744073709551615", "18446744073709551616", "18446744073709551617", "1" + strings.Repeat("0", 600), "1" + strings.Repeat("0", 2000),
	} {
		a := must(t, half)
		for _, more := range []int{0, 1, 2} {
			b := a.Plus(a, ratio.From(more))
			for _, limbs := range []int{1, 2, 63, 64} {
				check(t, '!', a, b, limbs, "0", api.ErrLimit)
				check(t, '!', b.Plus(a.Minus()), b, limbs, "0", api.ErrLimit)
				check(t, '!', a, b.Times(b), limbs, "0", api.ErrLimit)
			}
		}
	}
}
