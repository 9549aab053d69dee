package array

import (
	"math"
	"math/big"
	"slices"
	"strconv"
	"strings"
	"testing"

	"typeball/api"
	"typeball/ratio"
	"typeball/whole"
)

// rat reads a number: digits, perhaps with a minus ahead of them, and perhaps a line
// and more digits behind them.
func rat(t *testing.T, s string) ratio.Rat {
	t.Helper()
	n := api.Num{Bot: "1"}
	s, n.Neg = strings.CutPrefix(s, "-")
	n.Top = s
	if top, bot, ok := strings.Cut(s, "/"); ok {
		n.Top, n.Bot = top, bot
	}
	x, ok := ratio.Of(n)
	if !ok {
		t.Fatalf("%q is no number", s)
	}
	return x
}

// ratsOf reads numbers with blanks between.
func ratsOf(t *testing.T, s string) []ratio.Rat {
	t.Helper()
	var l []ratio.Rat
	for _, word := range strings.Fields(s) {
		l = append(l, rat(t, word))
	}
	return l
}

// nums makes an array of the numbers that a text holds.
func nums(t *testing.T, s []int, text string) Array {
	t.Helper()
	a, ok := Nums(s, ratsOf(t, text)...)
	if !ok {
		t.Fatalf("no array of shape %v: %q", s, text)
	}
	return a
}

// chars makes an array of characters.
func chars(t *testing.T, s []int, text string) Array {
	t.Helper()
	a, ok := Chars(s, []rune(text)...)
	if !ok {
		t.Fatalf("no array of shape %v: %q", s, text)
	}
	return a
}

// tellRats writes numbers as ratsOf reads them.
func tellRats(l []ratio.Rat) string {
	words := make([]string, len(l))
	for i, x := range l {
		words[i] = x.Top().Digits("-")
		if !x.IsWhole() {
			words[i] += "/" + x.Bot().Text()
		}
	}
	return strings.Join(words, " ")
}

// tell writes an array by what its methods say of it: kind, shape, elements.
func tell(a Array) string {
	var shape []string
	for _, n := range a.Shape() {
		shape = append(shape, strconv.Itoa(n))
	}
	head := "[" + strings.Join(shape, " ") + "] "
	if a.IsChar() {
		return "chars " + head + string(a.Runes())
	}
	return "nums " + head + tellRats(a.Rats())
}

// holds reports an error unless an array is as tell writes it, with all that the
// numbers of its axes and elements say of it.
func holds(t *testing.T, what string, a Array, want string) {
	t.Helper()
	if got := tell(a); got != want {
		t.Errorf("%s: got %q, not %q", what, got, want)
	}
	if a.Rank() != len(a.Shape()) {
		t.Errorf("%s: rank %d, shape %v", what, a.Rank(), a.Shape())
	}
	n, ok := Count(a.Shape())
	if !ok || n != a.Len() {
		t.Errorf("%s: %d elements of shape %v", what, a.Len(), a.Shape())
	}
	if len(a.Rats())+len(a.Runes()) != n || a.IsChar() && len(a.Rats()) > 0 || !a.IsChar() && len(a.Runes()) > 0 {
		t.Errorf("%s: %d numbers and %d characters, not %d elements", what, len(a.Rats()), len(a.Runes()), n)
	}
}

// holdsNone reports an error unless there is no array, and the zero value.
func holdsNone(t *testing.T, what string, a Array, ok bool) {
	t.Helper()
	if ok || tell(a) != "nums [0] " || !Same(a, Array{}) {
		t.Errorf("%s: got %q and %v, not the zero value and false", what, tell(a), ok)
	}
}

// shapes are lists of numbers with what they count; -1: they are no shape.
var shapes = []struct {
	s []int
	n int
}{
	{nil, 1},
	{[]int{}, 1},
	{[]int{0}, 0},
	{[]int{1}, 1},
	{[]int{7}, 7},
	{[]int{2, 3}, 6},
	{[]int{3, 1, 5}, 15},
	{[]int{4095}, 4095},
	{[]int{4096}, 4096},
	{[]int{4097}, -1},
	{[]int{64, 64}, 4096},
	{[]int{64, 65}, -1},
	{[]int{65, 64}, -1},
	{[]int{63, 65}, 4095},
	{[]int{2, 2048}, 4096},
	{[]int{2, 2049}, -1},
	{[]int{3, 1365}, 4095},
	{[]int{3, 1366}, -1},
	{[]int{17, 241}, -1},
	{[]int{4096, 1}, 4096},
	{[]int{1, 4096}, 4096},
	{[]int{4096, 1, 1, 1, 1, 1, 1, 1}, 4096},
	{[]int{4096, 2}, -1},
	{[]int{0, 4096}, 0},
	{[]int{4096, 0}, 0},
	{[]int{0, 4097}, -1},
	{[]int{4097, 0}, -1},
	{[]int{0, 1 << 40}, -1},
	{[]int{1 << 40, 0}, -1},
	{[]int{0, math.MaxInt}, -1},
	{[]int{64, 0, 64}, 0},
	{[]int{64, 0, 65}, -1},
	{[]int{0, 0, 0}, 0},
	{[]int{0, 0, 4096, 0}, 0},
	{[]int{0, 0, 4097, 0}, -1},
	{[]int{1, 1, 1, 1, 1, 1, 1, 1}, 1},
	{[]int{0, 0, 0, 0, 0, 0, 0, 0}, 0},
	{[]int{2, 2, 2, 2, 2, 2, 2, 2}, 256},
	{[]int{8, 8, 8, 8, 1, 1, 1, 1}, 4096},
	{[]int{1, 1, 1, 1, 1, 1, 1, 1, 1}, -1},
	{[]int{0, 0, 0, 0, 0, 0, 0, 0, 0}, -1},
	{[]int{2, 2, 2, 2, 2, 2, 2, 2, 0}, -1},
	{[]int{-1}, -1},
	{[]int{-1, -1}, -1},
	{[]int{2, -3}, -1},
	{[]int{-2, 3}, -1},
	{[]int{0, -1}, -1},
	{[]int{-1, 0}, -1},
	{[]int{math.MinInt}, -1},
	{[]int{math.MinInt, 0}, -1},
	{[]int{math.MinInt, math.MinInt}, -1},
	{[]int{math.MinInt, -1}, -1},
	{[]int{math.MaxInt}, -1},
	{[]int{math.MaxInt, math.MaxInt}, -1},
	{[]int{1 << 32, 1 << 32}, -1},
	{[]int{1 << 32, 1 << 32, 5}, -1},
	{[]int{1 << 16, 1 << 16, 1 << 16, 1 << 16}, -1},
	{[]int{1 << 62, 4, 3}, -1},
	{[]int{6148914691236517206, 3}, -1},
	{[]int{2, math.MaxInt, 2}, -1},
}

func TestCount(t *testing.T) {
	for _, c := range shapes {
		n, ok := Count(c.s)
		if ok != (c.n >= 0) || n != max(c.n, 0) {
			t.Errorf("%v: %d and %v, not %d", c.s, n, ok, c.n)
		}
	}
}

// counted returns what Count returns, by numbers of any size.
func counted(s []int) (int, bool) {
	room, items := big.NewInt(1), big.NewInt(1)
	for _, n := range s {
		if n < 0 {
			return 0, false
		}
		room.Mul(room, big.NewInt(int64(max(n, 1))))
		items.Mul(items, big.NewInt(int64(n)))
	}
	if len(s) > 8 || room.Cmp(big.NewInt(4096)) > 0 {
		return 0, false
	}
	return int(items.Int64()), true
}

// TestCountOfMany: all lists of up to four numbers from some near the edges.
func TestCountOfMany(t *testing.T) {
	near := []int{math.MinInt, -1, 0, 1, 2, 3, 16, 63, 64, 65, 1024, 4095, 4096, 4097, 1 << 31, 1 << 32, 1 << 52, 1 << 62, math.MaxInt}
	lists := [][]int{nil}
	for at := 0; at < len(lists); at++ {
		s := lists[at]
		n, ok := Count(s)
		if m, is := counted(s); n != m || ok != is {
			t.Fatalf("%v: %d and %v, not %d and %v", s, n, ok, m, is)
		}
		if len(s) == 4 {
			continue
		}
		for _, n := range near {
			lists = append(lists, append(slices.Clone(s), n))
		}
	}
}

func TestNumsChars(t *testing.T) {
	holds(t, "matrix", nums(t, []int{2, 3}, "1 2 3 -4 5/6 0"), "nums [2 3] 1 2 3 -4 5/6 0")
	holds(t, "list", nums(t, []int{2}, "1/3 25"), "nums [2] 1/3 25")
	holds(t, "no axes", nums(t, nil, "7"), "nums [] 7")
	holds(t, "no axes, no nil", nums(t, []int{}, "7"), "nums [] 7")
	holds(t, "no numbers", nums(t, []int{0}, ""), "nums [0] ")
	holds(t, "no rows", nums(t, []int{0, 3}, ""), "nums [0 3] ")
	holds(t, "no columns", nums(t, []int{3, 0}, ""), "nums [3 0] ")
	holds(t, "8 axes", nums(t, []int{1, 1, 1, 2, 1, 1, 1, 1}, "8 9"), "nums [1 1 1 2 1 1 1 1] 8 9")
	holds(t, "matrix", chars(t, []int{2, 2}, "ab\u2206 "), "chars [2 2] ab\u2206 ")
	holds(t, "list", chars(t, []int{3}, "abc"), "chars [3] abc")
	holds(t, "no axes", chars(t, nil, "x"), "chars [] x")
	holds(t, "no axes, no nil", chars(t, []int{}, "x"), "chars [] x")
	holds(t, "no characters", chars(t, []int{0}, ""), "chars [0] ")
	holds(t, "no rows", chars(t, []int{0, 3}, ""), "chars [0 3] ")
	holds(t, "8 axes", chars(t, []int{1, 1, 1, 2, 1, 1, 1, 1}, "xy"), "chars [1 1 1 2 1 1 1 1] xy")
	holds(t, "axes without elements", chars(t, []int{1, 0, 2, 1, 3, 1, 4, 5}, ""), "chars [1 0 2 1 3 1 4 5] ")
}

// TestNumsCharsOfShapes: each shape with as many elements as it has, with one less,
// with one more, and with none.
func TestNumsCharsOfShapes(t *testing.T) {
	for _, c := range shapes {
		for _, n := range []int{c.n - 1, c.n, c.n + 1, 0, 1} {
			if n < 0 {
				continue
			}
			a, ok := Nums(c.s, make([]ratio.Rat, n)...)
			b, is := Chars(c.s, make([]rune, n)...)
			if n != c.n {
				holdsNone(t, "numbers", a, ok)
				holdsNone(t, "characters", b, is)
				continue
			}
			if !ok || !is || a.Len() != n || b.Len() != n || !slices.Equal(a.Shape(), c.s) || !slices.Equal(b.Shape(), c.s) {
				t.Errorf("%v of %d: %v and %v, %q and %q", c.s, n, ok, is, tell(a), tell(b))
			}
			if a.IsChar() || !b.IsChar() {
				t.Errorf("%v of %d: kinds", c.s, n)
			}
		}
	}
}

func TestNumIntChar(t *testing.T) {
	for _, s := range []string{"0", "1", "-1", "2/3", "-5/7", "340282366920938463463374607431768211455"} {
		holds(t, s, Num(rat(t, s)), "nums [] "+s)
	}
	for _, n := range []int{0, 1, -1, 5, math.MinInt, math.MaxInt} {
		holds(t, "int", Int(n), "nums [] "+strconv.Itoa(n))
	}
	for _, c := range []rune{'a', ' ', 0, 0x2206, 0x10ffff} {
		holds(t, "char", Char(c), "chars [] "+string(c))
	}
	for _, c := range []rune{-1, math.MinInt32, math.MaxInt32, 0xd800} {
		if a := Char(c); a.Rune(0) != c || a.Rank() != 0 || a.Len() != 1 {
			t.Errorf("char %d: %q", c, tell(a))
		}
	}
}

func TestIntsTextNone(t *testing.T) {
	holds(t, "ints", Ints(1, -2, 0, math.MinInt, math.MaxInt), "nums [5] 1 -2 0 -9223372036854775808 9223372036854775807")
	holds(t, "one", Ints(7), "nums [1] 7")
	holds(t, "no ints", Ints(), "nums [0] ")
	holds(t, "text", Text([]rune("a b\u2206")), "chars [4] a b\u2206")
	holds(t, "one", Text([]rune("x")), "chars [1] x")
	holds(t, "no text", Text(nil), "chars [0] ")
	holds(t, "no text, no nil", Text([]rune{}), "chars [0] ")
	holds(t, "none", None(true), "chars [0] ")
	holds(t, "none", None(false), "nums [0] ")
	holds(t, "zero value", Array{}, "nums [0] ")
	if !Same(None(true), Text(nil)) || !Same(None(false), Ints()) || !Same(Array{}, None(false)) {
		t.Error("lists without elements")
	}
}

// TestIntsTextAtTheLimit: more elements than an array may have make none.
func TestIntsTextAtTheLimit(t *testing.T) {
	for n := 4094; n <= 4099; n++ {
		a, b := Ints(make([]int, n)...), Text(make([]rune, n))
		if n > api.MaxItems {
			holdsNone(t, "ints", a, false)
			holdsNone(t, "text", b, false)
			continue
		}
		if a.Len() != n || b.Len() != n || !slices.Equal(a.Shape(), []int{n}) || !slices.Equal(b.Shape(), []int{n}) {
			t.Errorf("%d: %v and %v", n, a.Shape(), b.Shape())
		}
	}
}

func TestPlain(t *testing.T) {
	for _, c := range []struct {
		a Array
		p api.Plain
	}{
		{nums(t, []int{1, 2}, "1/2 -3"), api.Plain{Shape: []int{1, 2}, Nums: []api.Num{{Top: "1", Bot: "2"}, {Neg: true, Top: "3", Bot: "1"}}}},
		{Int(0), api.Plain{Nums: []api.Num{{Top: "0", Bot: "1"}}}},
		{Array{}, api.Plain{Shape: []int{0}}},
		{None(true), api.Plain{Shape: []int{0}, Char: true}},
		{Char('x'), api.Plain{Char: true, Text: []rune("x")}},
		{chars(t, []int{2, 1, 2}, "ab c"), api.Plain{Shape: []int{2, 1, 2}, Char: true, Text: []rune("ab c")}},
		{chars(t, []int{2, 0}, ""), api.Plain{Shape: []int{2, 0}, Char: true}},
		{nums(t, []int{0, 2}, ""), api.Plain{Shape: []int{0, 2}}},
	} {
		if p := c.a.Plain(); !samePlain(p, c.p) {
			t.Errorf("%q: %v, not %v", tell(c.a), p, c.p)
		}
		a, ok := Of(c.p)
		if !ok || !Same(a, c.a) || tell(a) != tell(c.a) || !samePlain(a.Plain(), c.p) {
			t.Errorf("%v: %q and %v, not %q", c.p, tell(a), ok, tell(c.a))
		}
	}
}

// samePlain reports whether two descriptions are the same.
func samePlain(p, q api.Plain) bool {
	return slices.Equal(p.Shape, q.Shape) && p.Char == q.Char && slices.Equal(p.Text, q.Text) && slices.Equal(p.Nums, q.Nums)
}

// TestOfPlain: Of returns the array whose Plain it is given (P6.5), whatever made it.
func TestOfPlain(t *testing.T) {
	for _, a := range many(t) {
		p := a.Plain()
		b, ok := Of(p)
		if !ok || !Same(a, b) || !samePlain(b.Plain(), p) {
			t.Errorf("%q: %q and %v", tell(a), tell(b), ok)
		}
	}
}

func TestOfWrong(t *testing.T) {
	one := []api.Num{{Top: "1", Bot: "1"}}
	two := append(one, api.Num{Neg: true, Top: "5", Bot: "2"})
	number := func(n api.Num) api.Plain { return api.Plain{Nums: []api.Num{n}} }
	for _, p := range []api.Plain{
		{},
		{Char: true},
		{Nums: two},
		{Char: true, Text: []rune("ab")},
		{Shape: []int{2}, Nums: one},
		{Shape: []int{2}},
		{Shape: []int{1}, Nums: two},
		{Shape: []int{0}, Nums: one},
		{Shape: []int{0, 1}, Nums: one},
		{Shape: []int{0}, Nums: []api.Num{{Top: "2", Bot: "4"}}},
		{Shape: []int{0, 3}, Nums: []api.Num{{}}},
		{Shape: []int{3}, Char: true, Text: []rune("ab")},
		{Shape: []int{1}, Char: true, Text: []rune("ab")},
		{Shape: []int{0}, Char: true, Text: []rune("a")},
		{Shape: []int{2}, Text: []rune("ab")},
		{Shape: []int{0}, Text: []rune("a")},
		{Text: []rune("a")},
		{Shape: []int{2}, Nums: two, Text: []rune("ab")},
		{Shape: []int{2}, Nums: two, Text: []rune("a")},
		{Shape: []int{2}, Char: true, Nums: two},
		{Shape: []int{0}, Char: true, Nums: one},
		{Char: true, Nums: one},
		{Shape: []int{2}, Char: true, Nums: two, Text: []rune("ab")},
		{Shape: []int{2}, Char: true, Nums: one, Text: []rune("ab")},
		{Shape: []int{-1}},
		{Shape: []int{-1}, Char: true},
		{Shape: []int{-1, -1}, Nums: one},
		{Shape: []int{-2, -1}, Char: true, Text: []rune("ab")},
		{Shape: []int{0, -1}},
		{Shape: []int{0, 4097}},
		{Shape: []int{0, 4097}, Char: true},
		{Shape: []int{1, 1, 1, 1, 1, 1, 1, 1, 1}, Nums: one},
		{Shape: []int{1, 1, 1, 1, 1, 1, 1, 1, 1}, Char: true, Text: []rune("a")},
		{Shape: []int{4097}, Char: true, Text: make([]rune, 4097)},
		{Shape: []int{1 << 32, 1 << 32}},
		{Shape: []int{1 << 32, 1 << 32}, Char: true},
		number(api.Num{}),
		number(api.Num{Top: "1"}),
		number(api.Num{Bot: "1"}),
		number(api.Num{Top: "1", Bot: "0"}),
		number(api.Num{Top: "0", Bot: "2"}),
		number(api.Num{Neg: true, Top: "0", Bot: "1"}),
		number(api.Num{Top: "01", Bot: "1"}),
		number(api.Num{Top: "1", Bot: "01"}),
		number(api.Num{Top: "2", Bot: "4"}),
		number(api.Num{Top: "-1", Bot: "1"}),
		number(api.Num{Top: "a", Bot: "1"}),
		number(api.Num{Top: "1", Bot: "1 "}),
		{Shape: []int{2}, Nums: append(slices.Clone(one), api.Num{Top: "6", Bot: "3"})},
		{Shape: []int{2}, Nums: append([]api.Num{{Top: "6", Bot: "3"}}, one...)},
	} {
		a, ok := Of(p)
		if ok || tell(a) != "nums [0] " || !Same(a, Array{}) {
			t.Errorf("%v: %q and %v", p, tell(a), ok)
		}
	}
}

// many returns arrays of both kinds, of all numbers of axes, with and without
// elements.
func many(t *testing.T) []Array {
	t.Helper()
	long := strings.Repeat("9", 700)
	l := []Array{
		{},
		Int(5), Int(-5), Num(rat(t, "-7/3")), Num(rat(t, long+"/2")),
		Char('a'), Char(' '), Char(0x2395),
		Ints(1, 2, 3), Ints(), Ints(0), Ints(math.MinInt, math.MaxInt),
		nums(t, []int{2}, "1/2 -"+long),
		Text([]rune("abc")), Text(nil), None(true), None(false),
	}
	for _, c := range shapes {
		if c.n < 0 {
			continue
		}
		x, y := make([]ratio.Rat, c.n), make([]rune, c.n)
		for i := range c.n {
			x[i], _ = ratio.New(whole.From(i-3), whole.From(i%7+1))
			y[i] = rune('a' + i%26)
		}
		a, _ := Nums(c.s, x...)
		b, _ := Chars(c.s, y...)
		l = append(l, a, b)
	}
	return l
}

func TestRatRune(t *testing.T) {
	a, b := nums(t, []int{2, 2}, "5 -6 7/8 0"), chars(t, []int{3}, "x\u2206y")
	for i, want := range map[int]string{0: "5", 1: "-6", 2: "7/8", 3: "0", 4: "0", 5: "0", -1: "0", -2: "0", math.MinInt: "0", math.MaxInt: "0"} {
		if x := a.Rat(i); tellRats([]ratio.Rat{x}) != want {
			t.Errorf("number %d: %s", i, tellRats([]ratio.Rat{x}))
		}
		if c := a.Rune(i); c != 0 {
			t.Errorf("character %d of numbers: %q", i, c)
		}
	}
	for i, want := range map[int]rune{0: 'x', 1: 0x2206, 2: 'y', 3: 0, 4: 0, -1: 0, math.MinInt: 0, math.MaxInt: 0} {
		if c := b.Rune(i); c != want {
			t.Errorf("character %d: %q", i, c)
		}
		if x := b.Rat(i); x.Sign() != 0 {
			t.Errorf("number %d of characters: %s", i, x.Num().Top)
		}
	}
	for _, a := range []Array{{}, None(true), chars(t, []int{0, 5}, "")} {
		for i := -1; i < 3; i++ {
			if a.Rat(i).Sign() != 0 || a.Rune(i) != 0 {
				t.Errorf("%q has an element %d", tell(a), i)
			}
		}
	}
}

func TestRatsRunes(t *testing.T) {
	for _, a := range many(t) {
		x, y := a.Rats(), a.Runes()
		if a.IsChar() && (len(x) > 0 || len(y) != a.Len()) || !a.IsChar() && (len(y) > 0 || len(x) != a.Len()) {
			t.Errorf("%q: %d numbers, %d characters", tell(a), len(x), len(y))
		}
		for i, n := range x {
			if n.Cmp(a.Rat(i)) != 0 {
				t.Errorf("%q: number %d", tell(a), i)
			}
		}
		for i, c := range y {
			if c != a.Rune(i) {
				t.Errorf("%q: character %d", tell(a), i)
			}
		}
	}
}

func TestWhole(t *testing.T) {
	for _, c := range []struct {
		a  Array
		l  []int
		ok bool
	}{
		{Ints(1, 2, 3), []int{1, 2, 3}, true},
		{Int(-5), []int{-5}, true},
		{nums(t, []int{2, 2}, "0 -1 2 7"), []int{0, -1, 2, 7}, true},
		{Array{}, nil, true},
		{nums(t, []int{0, 3}, ""), nil, true},
		{None(true), nil, true},
		{chars(t, []int{2, 0}, ""), nil, true},
		{Char('1'), nil, false},
		{Text([]rune("12")), nil, false},
		{nums(t, []int{3}, "1 1/2 3"), nil, false},
		{nums(t, []int{1}, "-1/2"), nil, false},
		{nums(t, []int{2}, "5 7/3"), nil, false},
		{nums(t, []int{2}, "9223372036854775807 -9223372036854775808"), []int{math.MaxInt, math.MinInt}, true},
		{nums(t, []int{2}, "1 9223372036854775808"), nil, false},
		{nums(t, []int{2}, "-9223372036854775809 1"), nil, false},
		{nums(t, nil, "18446744073709551616"), nil, false},
	} {
		l, ok := c.a.Whole()
		if ok != c.ok || !slices.Equal(l, c.l) || !ok && l != nil {
			t.Errorf("%q: %v and %v", tell(c.a), l, ok)
		}
	}
}

func TestLimbsBytes(t *testing.T) {
	pow := func(n uint) string { return new(big.Int).Lsh(big.NewInt(1), n).String() }
	for _, c := range []struct {
		a            Array
		limbs, bytes int
	}{
		{Array{}, 0, 20},
		{None(true), 0, 20},
		{nums(t, []int{0, 5, 2}, ""), 0, 28},
		{chars(t, []int{3, 0}, ""), 0, 24},
		{Char('x'), 0, 17},
		{Text([]rune("a\u2206\U0010ffff")), 0, 23},
		{chars(t, []int{2, 3}, "abcdef"), 0, 30},
		{Int(1), 1, 32},
		{Int(0), 1, 28},
		{Ints(0, 0), 1, 44},
		{Ints(1, 2), 1, 52},
		{Ints(1<<32-1, -1<<32), 2, 56},
		{nums(t, nil, "1/2"), 1, 32},
		{nums(t, nil, "-1/4294967296"), 2, 36},
		{nums(t, nil, pow(96)+"/3"), 4, 44},
		{nums(t, []int{1, 3}, "1 5/"+pow(64)+" 2"), 3, 24 + 16 + 24 + 16},
		{nums(t, []int{3}, pow(2047)+" 0 1/"+pow(2048)), 65, 20 + 8 + 4*65 + 12 + 8 + 4*66},
		{chars(t, []int{1, 1, 1, 1, 1, 1, 1, 1}, "x"), 0, 49},
	} {
		if c.a.Limbs() != c.limbs || c.a.Bytes() != c.bytes {
			t.Errorf("%q: %d limbs, %d bytes, not %d and %d", tell(c.a), c.a.Limbs(), c.a.Bytes(), c.limbs, c.bytes)
		}
	}
}

func TestPick(t *testing.T) {
	five, ab := Ints(5, 6), Text([]rune("ab"))
	for _, c := range []struct {
		a     Array
		s, at []int
		want  string
	}{
		{five, []int{2, 2}, []int{1, 0, 9, 1}, "nums [2 2] 6 5 0 6"},
		{five, nil, []int{1}, "nums [] 6"},
		{five, []int{}, []int{2}, "nums [] 0"},
		{five, []int{0}, nil, "nums [0] "},
		{five, []int{0, 3}, []int{}, "nums [0 3] "},
		{five, []int{6}, []int{-1, 0, 1, 2, math.MinInt, math.MaxInt}, "nums [6] 0 5 6 0 0 0"},
		{ab, []int{6}, []int{-1, 0, 1, 2, math.MinInt, math.MaxInt}, "chars [6]  ab   "},
		{ab, []int{1, 3}, []int{1, 1, 0}, "chars [1 3] bba"},
		{ab, nil, []int{0}, "chars [] a"},
		{ab, nil, []int{7}, "chars []  "},
		{ab, []int{2, 0}, nil, "chars [2 0] "},
		{Array{}, []int{2}, []int{0, 1}, "nums [2] 0 0"},
		{Array{}, nil, []int{0}, "nums [] 0"},
		{None(true), []int{2}, []int{0, 1}, "chars [2]   "},
		{None(true), []int{0}, nil, "chars [0] "},
		{nums(t, []int{2, 2}, "1/2 3 -4 5"), []int{3}, []int{3, 2, 0}, "nums [3] 5 -4 1/2"},
		{chars(t, []int{2, 2}, "abcd"), []int{1, 1, 1, 1, 1, 1, 1, 2}, []int{3, 4}, "chars [1 1 1 1 1 1 1 2] d "},
		{Char('x'), []int{3}, []int{0, 1, 0}, "chars [3] x x"},
		{Int(-7), []int{3}, []int{0, -1, 0}, "nums [3] -7 0 -7"},
	} {
		a, ok := c.a.Pick(c.s, c.at)
		if !ok {
			t.Errorf("%q at %v: none", tell(c.a), c.at)
		}
		holds(t, "pick", a, c.want)
	}
}

func TestPickWrong(t *testing.T) {
	for _, a := range many(t) {
		for _, c := range shapes {
			for _, n := range []int{c.n - 1, c.n + 1, 0, 1, 2} {
				if n < 0 || n == c.n {
					continue
				}
				b, ok := a.Pick(c.s, make([]int, n))
				holdsNone(t, "pick", b, ok)
			}
		}
	}
}

func TestPickOfMany(t *testing.T) {
	for _, a := range many(t) {
		at := make([]int, a.Len())
		for i := range at {
			at[i] = i
		}
		if b, ok := a.Pick(a.Shape(), at); !ok || !Same(a, b) {
			t.Errorf("%q: %q and %v", tell(a), tell(b), ok)
		}
		if b, ok := a.Pick([]int{len(at)}, at); !ok || !Same(a.Ravel(), b) {
			t.Errorf("%q as a list: %q and %v", tell(a), tell(b), ok)
		}
	}
}

func TestRavel(t *testing.T) {
	for _, c := range []struct {
		a    Array
		want string
	}{
		{nums(t, []int{2, 2}, "1 2/3 -4 0"), "nums [4] 1 2/3 -4 0"},
		{chars(t, []int{2, 1, 2}, "ab c"), "chars [4] ab c"},
		{Int(7), "nums [1] 7"},
		{Char('x'), "chars [1] x"},
		{Ints(1, 2), "nums [2] 1 2"},
		{Array{}, "nums [0] "},
		{None(true), "chars [0] "},
		{nums(t, []int{0, 5}, ""), "nums [0] "},
		{chars(t, []int{3, 0, 2}, ""), "chars [0] "},
	} {
		holds(t, "ravel", c.a.Ravel(), c.want)
	}
}

// TestRavelOfMany: a list of the elements, of as many as there may be, too.
func TestRavelOfMany(t *testing.T) {
	for _, a := range many(t) {
		b := a.Ravel()
		if b.IsChar() != a.IsChar() || !slices.Equal(b.Shape(), []int{a.Len()}) || !slices.Equal(a.Runes(), b.Runes()) || tellRats(a.Rats()) != tellRats(b.Rats()) {
			t.Errorf("%q: %q", tell(a), tell(b))
		}
	}
}

func TestSame(t *testing.T) {
	half, _ := ratio.New(whole.From(-2), whole.From(-4))
	for _, c := range []struct {
		a, b Array
		want bool
	}{
		{Ints(1, 2), Ints(1, 2), true},
		{Num(half), nums(t, nil, "1/2"), true},
		{Num(half), nums(t, nil, "-1/2"), false},
		{nums(t, nil, "1/3"), nums(t, nil, "1/2"), false},
		{Ints(1, 2), Ints(1, 3), false},
		{Ints(1, 2), Ints(3, 2), false},
		{Ints(1, 2), Ints(1, 2, 3), false},
		{Ints(1, 2), nums(t, []int{1, 2}, "1 2"), false},
		{nums(t, []int{2, 1}, "1 2"), nums(t, []int{1, 2}, "1 2"), false},
		{Int(1), Ints(1), false},
		{Ints(1), nums(t, []int{1, 1}, "1"), false},
		{Char('x'), Text([]rune("x")), false},
		{Char('x'), Char('x'), true},
		{Char('x'), Char('y'), false},
		{Char('1'), Int(1), false},
		{Char(0), Int(0), false},
		{Text([]rune("ab")), Text([]rune("ab")), true},
		{Text([]rune("ab")), Text([]rune("ac")), false},
		{Text([]rune("ab")), Text([]rune("abc")), false},
		{chars(t, []int{1, 2}, "ab"), chars(t, []int{2, 1}, "ab"), false},
		{None(true), None(true), true},
		{None(true), None(false), false},
		{None(false), None(false), true},
		{Array{}, None(false), true},
		{Array{}, nums(t, []int{0, 0}, ""), false},
		{nums(t, []int{0, 3}, ""), nums(t, []int{0, 4}, ""), false},
		{nums(t, []int{0, 3}, ""), nums(t, []int{3, 0}, ""), false},
		{nums(t, []int{0, 3}, ""), nums(t, []int{0, 3}, ""), true},
		{nums(t, []int{0, 3}, ""), chars(t, []int{0, 3}, ""), false},
		{chars(t, []int{2, 0}, ""), chars(t, []int{2, 0}, ""), true},
		{chars(t, []int{2, 0}, ""), chars(t, []int{2, 0, 0}, ""), false},
		{chars(t, []int{0}, ""), chars(t, []int{0, 0, 0, 0, 0, 0, 0, 0}, ""), false},
	} {
		if Same(c.a, c.b) != c.want || Same(c.b, c.a) != c.want {
			t.Errorf("%q and %q: %v", tell(c.a), tell(c.b), !c.want)
		}
	}
}

// TestSameOfMany: arrays are the same if what their methods say of them is.
func TestSameOfMany(t *testing.T) {
	l := many(t)
	told := make([]string, len(l))
	for i, a := range l {
		told[i] = tell(a)
	}
	for i, a := range l {
		for k, b := range l {
			if Same(a, b) != (told[i] == told[k]) {
				t.Errorf("%q and %q: %v", told[i], told[k], Same(a, b))
			}
		}
	}
}

// roomy returns a list with spare room behind it that holds an element, too.
func roomy[T any](spare T, l ...T) []T {
	return append(slices.Clip(slices.Clone(l)), spare, spare)[:len(l)]
}

// TestWhatIsHandedIn: an array does not change with what it was made of, and making
// one changes nothing, behind the lists neither.
func TestWhatIsHandedIn(t *testing.T) {
	one, nine := ratio.From(1), ratio.From(9)
	s, l, text := roomy(7, 2, 1), roomy(nine, one, one), roomy('z', 'a', 'a')
	ints, at := roomy(9, 1, 1), roomy(9, 0, 0)
	p := api.Plain{Shape: roomy(7, 2), Nums: roomy(api.Num{Top: "9", Bot: "1"}, api.Num{Top: "1", Bot: "1"}, api.Num{Top: "1", Bot: "1"})}
	q := api.Plain{Shape: roomy(7, 2), Char: true, Text: roomy('z', 'a', 'a')}
	var all []Array
	add := func(a Array, ok bool) {
		if !ok {
			t.Fatal("no array")
		}
		all = append(all, a)
	}
	add(Nums(s, l...))
	add(Chars(s, text...))
	add(Ints(ints...), true)
	add(Text(text), true)
	add(Of(p))
	add(Of(q))
	add(Ints(1).Pick(s, at))
	add(Text([]rune("a")).Pick(s, at))
	if !slices.Equal(s[:4], []int{2, 1, 7, 7}) || tellRats(l[:4]) != "1 1 9 9" || string(text[:4]) != "aazz" ||
		!slices.Equal(ints[:4], []int{1, 1, 9, 9}) || !slices.Equal(at[:4], []int{0, 0, 9, 9}) {
		t.Errorf("changed: %v %v %v %v", s[:4], string(text[:4]), ints[:4], at[:4])
	}
	if !slices.Equal(p.Shape[:3], []int{2, 7, 7}) || p.Nums[0].Top+p.Nums[1].Top+p.Nums[:4][2].Top+p.Nums[:4][3].Top != "1199" ||
		!slices.Equal(q.Shape[:3], []int{2, 7, 7}) || string(q.Text[:4]) != "aazz" {
		t.Errorf("changed: %v %v", p, q)
	}
	var before []string
	for _, a := range all {
		before = append(before, tell(a))
	}
	for i := range 2 {
		s[i], l[i], text[i], ints[i], at[i], q.Text[i] = 5, nine, 'z', 9, 1, 'z'
		p.Nums[i] = api.Num{Top: "9", Bot: "1"}
	}
	p.Shape[0], q.Shape[0] = 5, 5
	for i, a := range all {
		if tell(a) != before[i] {
			t.Errorf("%q became %q", before[i], tell(a))
		}
	}
}

// TestWhatIsHandedOut: an array does not change with what it answered, nor with what
// was put behind that; nor do other arrays that were made of it.
func TestWhatIsHandedOut(t *testing.T) {
	spoil := func(a Array) {
		nine := ratio.From(9)
		s, l, c, p := a.Shape(), a.Rats(), a.Runes(), a.Plain()
		n, _ := a.Whole()
		for i := range s {
			s[i], p.Shape[i] = 9, 8
		}
		for i := range l {
			l[i], p.Nums[i] = nine, api.Num{Top: "8", Bot: "1"}
		}
		for i := range c {
			c[i], p.Text[i] = 'y', 'z'
		}
		for i := range n {
			n[i] = 9
		}
		_, _, _, _ = append(s, 9), append(l, nine), append(c, 'y'), append(n, 9)
		_, _, _ = append(p.Shape, 9), append(p.Nums, api.Num{}), append(p.Text, 'z')
	}
	for _, a := range many(t) {
		r, b := a.Ravel(), a
		k, ok := a.Pick(nil, []int{0})
		if !ok {
			t.Fatal("no array")
		}
		wasA, wasR, wasK := tell(a), tell(r), tell(k)
		for _, x := range []Array{a, b, r, k} {
			spoil(x)
		}
		if tell(a) != wasA || tell(b) != wasA || tell(r) != wasR || tell(k) != wasK {
			t.Errorf("%q, %q, %q became %q, %q, %q", wasA, wasR, wasK, tell(a), tell(r), tell(k))
		}
	}
}

// TestAnswersAreNew: no two answers, and no two lists of one answer, share memory.
func TestAnswersAreNew(t *testing.T) {
	a := Ints(1, 2, 3)
	s, u, l, m, n, o := a.Shape(), a.Shape(), a.Rats(), a.Rats(), a.Plain(), a.Plain()
	s[0], l[0], n.Shape[0], n.Nums[0].Top = 9, ratio.From(9), 9, "9"
	if u[0] != 3 || tellRats(m) != "1 2 3" || o.Shape[0] != 3 || o.Nums[0].Top != "1" {
		t.Error("numbers are shared")
	}
	b := Text([]rune("abc"))
	x, y, p, q := b.Runes(), b.Runes(), b.Plain(), b.Plain()
	x[0], p.Text[0] = 'z', 'z'
	if string(y) != "abc" || string(q.Text) != "abc" || string(b.Runes()) != "abc" {
		t.Error("characters are shared")
	}
}
