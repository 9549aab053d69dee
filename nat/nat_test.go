package nat

import (
	"math"
	"math/big"
	"slices"
	"strconv"
	"strings"
	"testing"
)

// edgeLimbs are the limbs at which carries, borrows and guesses go wrong.
var edgeLimbs = []uint32{0, 1, 2, 0x7fffffff, 0x80000000, 0xfffffffe, 0xffffffff}

// fewEdgeLimbs are those that are combined to longer numbers.
var fewEdgeLimbs = []uint32{0, 1, 0x80000000, 0xffffffff}

// rowsOf returns all rows of up to n of the limbs.
func rowsOf(limbs []uint32, n int) [][]uint32 {
	all := [][]uint32{nil}
	last := all
	for range n {
		var next [][]uint32
		for _, row := range last {
			for _, limb := range limbs {
				next = append(next, append(slices.Clone(row), limb))
			}
		}
		all = append(all, next...)
		last = next
	}
	return all
}

// edgeNumbers returns many small numbers, and some longer ones.
func edgeNumbers() []Nat {
	var numbers []Nat
	for _, row := range slices.Concat(rowsOf(edgeLimbs, 2), rowsOf(fewEdgeLimbs, 4)) {
		numbers = append(numbers, trimmed(slices.Clone(row)))
	}
	return append(numbers, longNumbers()...)
}

// longNumbers returns numbers of mixed limbs.
func longNumbers() []Nat {
	var numbers []Nat
	seed := uint32(12345)
	for _, n := range []int{3, 5, 8, 17, 40, 64} {
		limbs := make([]uint32, n)
		for i := range limbs {
			seed = seed*1664525 + 1013904223
			limbs[i] = seed ^ seed>>16
		}
		numbers = append(numbers, trimmed(limbs))
	}
	return numbers
}

// bigOf returns a number as another implementation has it.
func bigOf(a Nat) *big.Int {
	n := new(big.Int)
	for i := len(a.limbs) - 1; i >= 0; i-- {
		n.Lsh(n, 32).Or(n, big.NewInt(int64(a.limbs[i])))
	}
	return n
}

// holds reports whether a number is another implementation's, with no limb 0 at
// its end.
func holds(a Nat, n *big.Int) bool {
	if len(a.limbs) > 0 && a.limbs[len(a.limbs)-1] == 0 {
		return false
	}
	return bigOf(a).Cmp(n) == 0
}

// must reads digits.
func must(t *testing.T, s string) Nat {
	t.Helper()
	a, ok := Parse(s)
	if !ok {
		t.Fatalf("Parse(%q): false", s)
	}
	return a
}

// bare reports whether a number is the zero value.
func bare(a Nat) bool { return a.limbs == nil }

func TestOf(t *testing.T) {
	for _, n := range []uint64{0, 1, 2, 9, 10, 1<<31 - 1, 1 << 31, 1<<32 - 1, 1 << 32, 1<<32 + 1, 1 << 63, math.MaxUint64} {
		a := Of(n)
		if !holds(a, new(big.Int).SetUint64(n)) {
			t.Errorf("Of(%d): limbs %v", n, a.limbs)
		}
		if s := a.Text(); s != strconv.FormatUint(n, 10) {
			t.Errorf("Of(%d): text %s", n, s)
		}
	}
}

func TestParse(t *testing.T) {
	for _, s := range []string{
		"0", "00", "1", "007", "10", "0000000001000000000",
		"4294967295", "4294967296", "18446744073709551615", "18446744073709551616",
		"340282366920938463463374607431768211455",
		strings.Repeat("9", 2000),
		strings.Repeat("0", 2000),
		strings.Repeat("0", 1999) + "5",
		"1" + strings.Repeat("0", 1999),
		strings.Repeat("0123456789", 200),
	} {
		want, _ := new(big.Int).SetString(s, 10)
		a, ok := Parse(s)
		if !ok || !holds(a, want) {
			t.Errorf("Parse(%q): %v, %v", s, a.Text(), ok)
		}
	}
}

func TestParseRefuses(t *testing.T) {
	for _, s := range []string{
		"", " ", "a", "12a", "a12", "1a2", "-1", "+1", " 1", "1 ", "1.0", "1,000", "1_000", "0x1", "1e3",
		"/", ":", "1/", "1:", "\x00", "1\n", "\u00af1", "\u0661", "\uff11", "\xff", "1\xb2",
		strings.Repeat("9", 2001),
		strings.Repeat("0", 2001),
		strings.Repeat("0", 2000) + "1",
		strings.Repeat("9", 1999) + "x",
		strings.Repeat("9", 5000),
	} {
		a, ok := Parse(s)
		if ok || !bare(a) {
			t.Errorf("Parse(%q): %v, %v", s, a.limbs, ok)
		}
	}
}

func TestText(t *testing.T) {
	if s := (Nat{}).Text(); s != "0" {
		t.Errorf("zero value: text %q", s)
	}
	for _, s := range []string{
		"1", "999999999", "1000000000", "1000000001", "9999999999",
		"999999999999999999", "1000000000000000000", "1000000001000000000", "100000000000000000000000000005",
		"1" + strings.Repeat("0", 1999),
	} {
		if got := must(t, s).Text(); got != s {
			t.Errorf("text of %s: %s", s, got)
		}
	}
	if s := must(t, "00000000000000000000120").Text(); s != "120" {
		t.Errorf("leading zeros: text %s", s)
	}
	for _, a := range edgeNumbers() {
		if s := a.Text(); s != bigOf(a).String() {
			t.Errorf("limbs %v: text %s", a.limbs, s)
		}
	}
}

func TestTextOfMoreDigitsThanAreRead(t *testing.T) {
	a := Of(1).Shl(32 * 500)
	if s := a.Text(); len(s) < 4000 || s != bigOf(a).String() {
		t.Errorf("text %s", s)
	}
}

func TestZeroOneEven(t *testing.T) {
	for _, a := range edgeNumbers() {
		n := bigOf(a)
		zero, one, even := n.Sign() == 0, n.Cmp(big.NewInt(1)) == 0, n.Bit(0) == 0
		if a.Zero() != zero || a.One() != one || a.Even() != even {
			t.Errorf("%v: %v, %v, %v", n, a.Zero(), a.One(), a.Even())
		}
	}
	if a := (Nat{}); !a.Zero() || a.One() || !a.Even() {
		t.Error("zero value")
	}
}

func TestLimbsBits(t *testing.T) {
	for _, x := range []struct {
		n           uint64
		limbs, bits int
	}{
		{0, 0, 0}, {1, 1, 1}, {2, 1, 2}, {3, 1, 2}, {255, 1, 8}, {256, 1, 9},
		{1<<32 - 1, 1, 32}, {1 << 32, 2, 33}, {1 << 63, 2, 64}, {math.MaxUint64, 2, 64},
	} {
		if a := Of(x.n); a.Limbs() != x.limbs || a.Bits() != x.bits {
			t.Errorf("%d: %d limbs, %d bits", x.n, a.Limbs(), a.Bits())
		}
	}
	for _, a := range edgeNumbers() {
		bits := bigOf(a).BitLen()
		if a.Bits() != bits || a.Limbs() != (bits+31)/32 {
			t.Errorf("%v: %d limbs, %d bits", bigOf(a), a.Limbs(), a.Bits())
		}
	}
	if a := must(t, "18446744073709551616"); a.Limbs() != 3 || a.Bits() != 65 {
		t.Errorf("2 to the power 64: %d limbs, %d bits", a.Limbs(), a.Bits())
	}
}

func TestUint(t *testing.T) {
	for _, n := range []uint64{0, 1, 1<<32 - 1, 1 << 32, 1<<32 + 7, 1 << 63, math.MaxUint64} {
		if got, ok := Of(n).Uint(); !ok || got != n {
			t.Errorf("%d: %d, %v", n, got, ok)
		}
	}
	for _, s := range []string{"18446744073709551616", "18446744073709551617", "340282366920938463463374607431768211455"} {
		if got, ok := must(t, s).Uint(); ok || got != 0 {
			t.Errorf("%s: %d, %v", s, got, ok)
		}
	}
	for _, a := range edgeNumbers() {
		n := bigOf(a)
		want := uint64(0)
		if n.IsUint64() {
			want = n.Uint64()
		}
		if got, ok := a.Uint(); ok != n.IsUint64() || got != want {
			t.Errorf("%v: %d, %v", n, got, ok)
		}
	}
}

func TestCmp(t *testing.T) {
	numbers := edgeNumbers()
	for _, a := range numbers {
		for _, b := range numbers {
			if got, want := a.Cmp(b), bigOf(a).Cmp(bigOf(b)); got != want {
				t.Fatalf("%v with %v: %d", bigOf(a), bigOf(b), got)
			}
		}
	}
	if (Nat{}).Cmp(Nat{}) != 0 || (Nat{}).Cmp(Of(1)) != -1 || Of(1).Cmp(Nat{}) != 1 {
		t.Error("zero value")
	}
}

func TestAddSubMul(t *testing.T) {
	numbers := edgeNumbers()
	for _, a := range numbers {
		for _, b := range numbers {
			m, n := bigOf(a), bigOf(b)
			if s := a.Add(b); !holds(s, new(big.Int).Add(m, n)) {
				t.Fatalf("%v plus %v: %s", m, n, s.Text())
			}
			if p := a.Mul(b); !holds(p, new(big.Int).Mul(m, n)) {
				t.Fatalf("%v times %v: %s", m, n, p.Text())
			}
			d, ok := a.Sub(b)
			if m.Cmp(n) < 0 && (ok || !bare(d)) || m.Cmp(n) >= 0 && (!ok || !holds(d, new(big.Int).Sub(m, n))) {
				t.Fatalf("%v minus %v: %s, %v", m, n, d.Text(), ok)
			}
		}
	}
}

func TestSubOfEqualsAndGreater(t *testing.T) {
	a := must(t, "18446744073709551616")
	if d, ok := a.Sub(a); !ok || !d.Zero() {
		t.Errorf("equal: %s, %v", d.Text(), ok)
	}
	if d, ok := a.Sub(Of(1)); !ok || d.Text() != "18446744073709551615" || d.Limbs() != 2 {
		t.Errorf("borrow: %s, %v", d.Text(), ok)
	}
	if d, ok := Of(1).Sub(Of(2)); ok || !bare(d) {
		t.Errorf("greater: %s, %v", d.Text(), ok)
	}
	if d, ok := (Nat{}).Sub(Nat{}); !ok || !d.Zero() {
		t.Errorf("0 minus 0: %s, %v", d.Text(), ok)
	}
}

// checkDivMod checks one division, and that dividend, quotient, divisor and
// remainder fit together.
func checkDivMod(t *testing.T, a, b Nat) {
	t.Helper()
	q, r, ok := a.DivMod(b)
	if b.Zero() {
		if ok || !bare(q) || !bare(r) {
			t.Fatalf("%v by 0: %s, %s, %v", bigOf(a), q.Text(), r.Text(), ok)
		}
		return
	}
	m, n := new(big.Int).QuoRem(bigOf(a), bigOf(b), new(big.Int))
	if !ok || !holds(q, m) || !holds(r, n) {
		t.Fatalf("%v by %v: %s, %s, %v", bigOf(a), bigOf(b), q.Text(), r.Text(), ok)
	}
	if r.Cmp(b) >= 0 || q.Mul(b).Add(r).Cmp(a) != 0 {
		t.Fatalf("%v by %v: %s and %s do not fit", bigOf(a), bigOf(b), q.Text(), r.Text())
	}
}

func TestDivMod(t *testing.T) {
	numbers := edgeNumbers()
	for _, a := range numbers {
		for _, b := range numbers {
			checkDivMod(t, a, b)
		}
	}
	if q, r, ok := Of(10).DivMod(Of(4)); !ok || q.Text() != "2" || r.Text() != "2" {
		t.Errorf("10 by 4: %s, %s, %v", q.Text(), r.Text(), ok)
	}
}

func TestDivModAroundProducts(t *testing.T) {
	numbers := longNumbers()
	for _, row := range rowsOf(fewEdgeLimbs, 3) {
		numbers = append(numbers, trimmed(slices.Clone(row)))
	}
	for _, a := range numbers {
		for _, b := range numbers {
			p := a.Mul(b)
			checkDivMod(t, p, b)
			checkDivMod(t, p.Add(Of(1)), b)
			if less, ok := p.Sub(Of(1)); ok {
				checkDivMod(t, less, b)
			}
			if less, ok := p.Add(b).Sub(Of(1)); ok {
				checkDivMod(t, less, b)
			}
		}
	}
}

func TestDivModByZero(t *testing.T) {
	for _, a := range []Nat{{}, Of(0), Of(1), Of(math.MaxUint64), Of(1).Shl(200)} {
		checkDivMod(t, a, Nat{})
		checkDivMod(t, a, Of(0))
	}
}

func TestGcd(t *testing.T) {
	for _, x := range [][3]uint64{
		{48, 36, 12}, {36, 48, 12}, {17, 5, 1}, {1, 100, 1}, {7, 7, 7}, {0, 0, 0}, {0, 9, 9}, {9, 0, 9},
		{0, 1, 1}, {math.MaxUint64, 0, math.MaxUint64}, {1 << 63, 1 << 40, 1 << 40},
		{12200160415121876738, 7540113804746346429, 1}, // neighbours of Fibonacci's row: the most steps
	} {
		if g := Of(x[0]).Gcd(Of(x[1])); g.Cmp(Of(x[2])) != 0 {
			t.Errorf("%d and %d: %s", x[0], x[1], g.Text())
		}
	}
	numbers := append(longNumbers(), edgeNumbers()[:60]...)
	common := must(t, "123456789012345678901234567890")
	for _, a := range numbers {
		for _, b := range numbers {
			m, n := a.Mul(common), b.Mul(common)
			want := new(big.Int).GCD(nil, nil, bigOf(m), bigOf(n))
			if g := m.Gcd(n); !holds(g, want) {
				t.Fatalf("%v and %v: %s", bigOf(m), bigOf(n), g.Text())
			}
		}
	}
}

func TestShlShr(t *testing.T) {
	shifts := []int{0, 1, 2, 31, 32, 33, 63, 64, 65, 95, 96, 127, 128, 129, 1000}
	for _, a := range edgeNumbers() {
		for _, n := range shifts {
			m := bigOf(a)
			if s := a.Shl(n); !holds(s, new(big.Int).Lsh(m, uint(n))) {
				t.Fatalf("%v up by %d: %s", m, n, s.Text())
			}
			if s := a.Shr(n); !holds(s, new(big.Int).Rsh(m, uint(n))) {
				t.Fatalf("%v down by %d: %s", m, n, s.Text())
			}
			if s := a.Shl(n).Shr(n); s.Cmp(a) != 0 {
				t.Fatalf("%v up and down by %d: %s", m, n, s.Text())
			}
		}
	}
}

func TestShiftsAtTheirEdges(t *testing.T) {
	for _, n := range []int{-1, -32, -33, math.MinInt, math.MinInt + 1} {
		for _, a := range []Nat{{}, Of(1), Of(5), Of(math.MaxUint64), Of(1).Shl(100)} {
			if up, down := a.Shl(n), a.Shr(n); up.Cmp(a) != 0 || down.Cmp(a) != 0 {
				t.Errorf("%s by %d: %s, %s", a.Text(), n, up.Text(), down.Text())
			}
		}
	}
	for _, n := range []int{64, 65, 1 << 40, math.MaxInt} {
		if down := Of(math.MaxUint64).Shr(n); !bare(down) {
			t.Errorf("down by %d: %s", n, down.Text())
		}
		if up := (Nat{}).Shl(n); !bare(up) {
			t.Errorf("0 up by %d: %s", n, up.Text())
		}
	}
	if down := Of(math.MaxUint64).Shr(63); !down.One() {
		t.Errorf("down by 63: %s", down.Text())
	}
}

// TestBeyondTheBound: the document promises no result there, but calls still end
// without a panic.
func TestBeyondTheBound(t *testing.T) {
	for _, n := range []int{1 << 40, math.MaxInt - 1, math.MaxInt} {
		Of(3).Shl(n)
		Of(3).Pow(n, math.MaxInt)
		Of(math.MaxUint64).Pow(n, math.MaxInt)
	}
}

func TestPow(t *testing.T) {
	for _, base := range []string{"2", "3", "7", "10", "16", "4294967295", "4294967296", "4294967297", "18446744073709551615", "123456789012345678901234567890"} {
		a := must(t, base)
		for n := range 40 {
			want := new(big.Int).Exp(bigOf(a), big.NewInt(int64(n)), nil)
			limbs := (want.BitLen() + 31) / 32
			for _, most := range []int{limbs, limbs + 1, math.MaxInt} {
				if p, ok := a.Pow(n, most); !ok || !holds(p, want) {
					t.Fatalf("%s to the power %d, most %d: %s, %v", base, n, most, p.Text(), ok)
				}
			}
			for _, most := range []int{limbs - 1, 0, -1, math.MinInt} {
				if p, ok := a.Pow(n, most); n > 0 && (ok || !bare(p)) {
					t.Fatalf("%s to the power %d, most %d: %s, %v", base, n, most, p.Text(), ok)
				}
			}
		}
	}
}

func TestPowAtItsEdge(t *testing.T) {
	for _, x := range []struct {
		base uint64
		n    int
		most int
		ok   bool
	}{
		{2, 31, 1, true}, {2, 32, 1, false}, {2, 32, 2, true},
		{2, 127, 4, true}, {2, 128, 4, false}, {3, 20, 1, true}, {3, 21, 1, false},
		{10, 30, 4, true}, {10, 38, 4, true}, {10, 39, 4, false},
		{1<<32 - 1, 1, 1, true}, {1 << 32, 1, 1, false}, {1 << 32, 63, 64, true}, {1 << 32, 64, 64, false},
		{1<<32 - 1, 64, 64, true}, {1<<32 - 1, 65, 64, false},
		{2, 2047, 64, true}, {2, 2048, 64, false},
		{2, 1000000, 64, false}, {2, math.MaxInt, 64, false}, {3, math.MaxInt, 64, false},
		{2, 1 << 40, 1 << 20, false},
	} {
		want := new(big.Int)
		if x.ok {
			want.Exp(new(big.Int).SetUint64(x.base), big.NewInt(int64(x.n)), nil)
		}
		if p, ok := Of(x.base).Pow(x.n, x.most); ok != x.ok || !holds(p, want) {
			t.Errorf("%d to the power %d, most %d: %v", x.base, x.n, x.most, ok)
		}
	}
}

// TestPowWhateverMostIs: powers of 0 and 1, and those with the exponent 0.
func TestPowWhateverMostIs(t *testing.T) {
	for _, most := range []int{math.MinInt, -1, 0, 1, 64, math.MaxInt} {
		for _, n := range []int{0, -1, -64, math.MinInt} {
			for _, a := range []Nat{{}, Of(1), Of(2), Of(math.MaxUint64), Of(1).Shl(5000)} {
				if p, ok := a.Pow(n, most); !ok || !p.One() {
					t.Errorf("%d bits to the power %d, most %d: %s, %v", a.Bits(), n, most, p.Text(), ok)
				}
			}
		}
		for _, n := range []int{1, 2, 3, 64, math.MaxInt} {
			if p, ok := (Nat{}).Pow(n, most); !ok || !bare(p) {
				t.Errorf("0 to the power %d, most %d: %s, %v", n, most, p.Text(), ok)
			}
			if p, ok := Of(1).Pow(n, most); !ok || !p.One() {
				t.Errorf("1 to the power %d, most %d: %s, %v", n, most, p.Text(), ok)
			}
		}
	}
}

// results returns the numbers that all calls with two numbers return.
func results(a, b Nat) []Nat {
	d, _ := a.Sub(b)
	q, r, _ := a.DivMod(b)
	p, _ := a.Pow(1, 100)
	return []Nat{a.Add(b), d, a.Mul(b), q, r, a.Gcd(b), a.Shl(0), a.Shl(32), a.Shr(0), a.Shr(32), a.Shr(5), p}
}

// share reports whether two numbers have memory in common.
func share(a, b Nat) bool {
	x, y := a.limbs[:cap(a.limbs)], b.limbs[:cap(b.limbs)]
	for i := range x {
		for j := range y {
			if &x[i] == &y[j] {
				return true
			}
		}
	}
	return false
}

// TestMemory: no call changes its numbers, with the room behind them, or returns
// memory of theirs, or twice the same.
func TestMemory(t *testing.T) {
	rows := [][]uint32{nil, {1}, {7}, {0xffffffff}, {0, 1}, {3, 5}, {0xffffffff, 0xffffffff}, {1, 2, 3}, {9, 0, 0, 4}}
	for _, x := range rows {
		for _, y := range rows {
			a, b := roomy(x), roomy(y)
			all := results(a, b)
			a.Text()
			if !untouched(a, x) || !untouched(b, y) {
				t.Fatalf("%v and %v are changed", x, y)
			}
			for i, r := range all {
				if share(r, a) || share(r, b) {
					t.Errorf("result %d of %v and %v shares memory with them", i, x, y)
				}
				for j := range i {
					if share(r, all[j]) {
						t.Errorf("results %d and %d of %v and %v share memory", j, i, x, y)
					}
				}
			}
		}
	}
}

// filler stands in the room behind the limbs of a number.
const filler = 0x5a5a5a5a

// roomy returns a number of the limbs, with room behind them.
func roomy(limbs []uint32) Nat {
	if len(limbs) == 0 {
		return Nat{}
	}
	all := append(slices.Clone(limbs), filler, filler)
	return Nat{all[:len(limbs)]}
}

// untouched reports whether a number is still what roomy returned.
func untouched(a Nat, limbs []uint32) bool {
	if len(limbs) == 0 {
		return bare(a)
	}
	return slices.Equal(a.limbs, limbs) && slices.Equal(a.limbs[:len(limbs)+2][len(limbs):], []uint32{filler, filler})
}
