package find

import (
	"math"
	"slices"
	"testing"

	"typeball/api"
	"typeball/array"
	"typeball/deci"
	"typeball/ratio"
	"typeball/whole"
)

// searches are searches of elements of a in in: what Index answers with origin 0 and
// with origin 1, or its error with either; and what Member answers.
var searches = []struct {
	in, a, from0, from1, member string
	e                           api.Errno
}{
	// The chapter's example, and others in a list.
	{in: "2:5 7", a: "2:7 6", from0: "2:1 2", from1: "2:2 3", member: "2:1 0"},
	{in: "2:5 7", a: ":5", from0: ":0", from1: ":1", member: ":1"},
	{in: "2:5 7", a: ":7", from0: ":1", from1: ":2", member: ":1"},
	{in: "2:5 7", a: ":0", from0: ":2", from1: ":3", member: ":0"},
	{in: "2:5 7", a: "1:5", from0: "1:0", from1: "1:1", member: "1:1"},
	{in: "1:5", a: "2:5 7", from0: "2:0 1", from1: "2:1 2", member: "2:1 0"},
	{in: "5:3 1 4 1 5", a: "2 3:1 5 9 2 6 3", from0: "2 3:1 4 5 5 5 0", from1: "2 3:2 5 6 6 6 1", member: "2 3:1 1 0 0 0 1"},
	{in: "4'abca", a: "2 2'abcd", from0: "2 2:0 1 2 4", from1: "2 2:1 2 3 5", member: "2 2:1 1 1 0"},
	{in: "6'banana", a: "3'nbx", from0: "3:2 0 6", from1: "3:3 1 7", member: "3:1 1 0"},
	{in: "6'banana", a: "'a", from0: ":1", from1: ":2", member: ":1"},
	{in: "6'banana", a: "'A", from0: ":6", from1: ":7", member: ":0"},
	{in: "3'aAa", a: "2'Aa", from0: "2:1 0", from1: "2:2 1", member: "2:1 1"},

	// Elements that occur several times: the first place, wherever the others are.
	{in: "4:2 2 2 2", a: "2:2 3", from0: "2:0 4", from1: "2:1 5", member: "2:1 0"},
	{in: "5:9 2 9 2 9", a: "3:2 9 2", from0: "3:1 0 1", from1: "3:2 1 2", member: "3:1 1 1"},
	{in: "6:3 2 1 1 2 3", a: "3:1 2 3", from0: "3:2 1 0", from1: "3:3 2 1", member: "3:1 1 1"},
	{in: "6:1 2 3 3 2 1", a: "4:0 1 2 3", from0: "4:6 0 1 2", from1: "4:7 1 2 3", member: "4:0 1 1 1"},
	{in: "3:1 2 3", a: "5:4 4 1 1 4", from0: "5:3 3 0 0 3", from1: "5:4 4 1 1 4", member: "5:0 0 1 1 0"},

	// Fractions, negative and great numbers.
	{in: "4:1/2 -1/2 0 2", a: "5:-1/2 1/2 2 -2 1/3", from0: "5:1 0 3 4 4", from1: "5:2 1 4 5 5", member: "5:1 1 1 0 0"},
	{in: "3:1/3 2/3 1", a: "3:2/3 3/2 1", from0: "3:1 3 2", from1: "3:2 4 3", member: "3:1 0 1"},
	{in: "2:99999999999999999999 4294967296", a: "3:4294967296 0 99999999999999999999", from0: "3:1 2 0", from1: "3:2 3 1", member: "3:1 0 1"},
	{in: "2:1 -18446744073709551616", a: "3:0 -18446744073709551616 18446744073709551616", from0: "3:2 1 2", from1: "3:3 2 3", member: "3:0 1 0"},

	// In an array without axes, which is as a list of one element.
	{in: ":5", a: ":5", from0: ":0", from1: ":1", member: ":1"},
	{in: ":5", a: "3:5 6 5", from0: "3:0 1 0", from1: "3:1 2 1", member: "3:1 0 1"},
	{in: "'x", a: "3'yxy", from0: "3:1 0 1", from1: "3:2 1 2", member: "3:0 1 0"},
	{in: "'x", a: ":5", from0: ":1", from1: ":2", member: ":0"},

	// In a list without elements.
	{in: "0:", a: ":5", from0: ":0", from1: ":1", member: ":0"},
	{in: "0:", a: "2:0 5", from0: "2:0 0", from1: "2:1 1", member: "2:0 0"},
	{in: "0:", a: "2'a\x00", from0: "2:0 0", from1: "2:1 1", member: "2:0 0"},
	{in: "0'", a: "2' \x00", from0: "2:0 0", from1: "2:1 1", member: "2:0 0"},
	{in: "0'", a: "2 1:0 32", from0: "2 1:0 0", from1: "2 1:1 1", member: "2 1:0 0"},

	// Of an array without elements, of either kind.
	{in: "3:1 2 3", a: "0:", from0: "0:", from1: "0:", member: "0:"},
	{in: "3:1 2 3", a: "0'", from0: "0:", from1: "0:", member: "0:"},
	{in: "3'abc", a: "0'", from0: "0:", from1: "0:", member: "0:"},
	{in: "3'abc", a: "2 0 3:", from0: "2 0 3:", from1: "2 0 3:", member: "2 0 3:"},
	{in: "'a", a: "0 4096'", from0: "0 4096:", from1: "0 4096:", member: "0 4096:"},
	{in: "0:", a: "0'", from0: "0:", from1: "0:", member: "0:"},
	{in: "0'", a: "0 0'", from0: "0 0:", from1: "0 0:", member: "0 0:"},

	// Numbers in characters, and characters in numbers: never the same.
	{in: "3'123", a: "3:1 2 3", from0: "3:3 3 3", from1: "3:4 4 4", member: "3:0 0 0"},
	{in: "3:1 2 3", a: "3'123", from0: "3:3 3 3", from1: "3:4 4 4", member: "3:0 0 0"},
	{in: "3:97 98 99", a: "3'abc", from0: "3:3 3 3", from1: "3:4 4 4", member: "3:0 0 0"},
	{in: "3'abc", a: "3:97 98 99", from0: "3:3 3 3", from1: "3:4 4 4", member: "3:0 0 0"},
	{in: "1:0", a: "'\x00", from0: ":1", from1: ":2", member: ":0"},
	{in: ":0", a: "'\x00", from0: ":1", from1: ":2", member: ":0"},
	{in: "'\x00", a: ":0", from0: ":1", from1: ":2", member: ":0"},
	{in: "2'\x00a", a: "2:0 1", from0: "2:2 2", from1: "2:3 3", member: "2:0 0"},
	{in: "2:1 0", a: "2'\x00\x01", from0: "2:2 2", from1: "2:3 3", member: "2:0 0"},
	{in: "2'a\x00", a: "2'\x00b", from0: "2:1 2", from1: "2:2 3", member: "2:1 0"},
	{in: "2' 0", a: ":0", from0: ":2", from1: ":3", member: ":0"},

	// In several axes: ErrRank for Index, also without elements; Member searches them all.
	{in: "2 2:1 2 3 4", a: "3:4 1 5", e: api.ErrRank, member: "3:1 1 0"},
	{in: "1 1:5", a: ":5", e: api.ErrRank, member: ":1"},
	{in: "1 2:5 6", a: ":5", e: api.ErrRank, member: ":1"},
	{in: "2 1'ab", a: "2'bc", e: api.ErrRank, member: "2:1 0"},
	{in: "1 1 1 1 1 1 1 1'x", a: "'x", e: api.ErrRank, member: ":1"},
	{in: "0 0:", a: ":5", e: api.ErrRank, member: ":0"},
	{in: "0 3'", a: "0'", e: api.ErrRank, member: "0:"},
	{in: "1 0'", a: "1 1:5", e: api.ErrRank, member: "1 1:0"},
	{in: "2 3:1 2 3 4 5 6", a: "2 2'abcd", e: api.ErrRank, member: "2 2:0 0 0 0"},
	{in: "2 3:1 2 3 1 2 3", a: "2 2:0 3 2 3", e: api.ErrRank, member: "2 2:0 1 1 1"},
}

func TestSearches(t *testing.T) {
	for _, c := range searches {
		in, a := of(t, c.in), of(t, c.a)
		for origin, want := range []string{c.from0, c.from1} {
			got, e := Index(in, a, origin)
			isOrFails(t, got, e, want, c.e, "Index of", c.a, "in", c.in, "from", origin)
		}
		isOrFails(t, Member(a, in), api.OK, c.member, api.OK, "Member of", c.a, "in", c.in)
	}
}

// keyed is an array with its elements as texts.
type keyed struct {
	a    array.Array
	keys []string
}

// withKeys is an array with its elements as texts.
func withKeys(a array.Array) keyed { return keyed{a, keysOf(a)} }

// found is where each element of a stands in in, counted from 0, one after the other;
// the number of elements there if nowhere.
func found(in, a keyed) []int {
	l := []int{}
	for _, key := range a.keys {
		at := slices.Index(in.keys, key)
		if at < 0 {
			at = len(in.keys)
		}
		l = append(l, at)
	}
	return l
}

// checkSearch checks Index, with both origins, and Member against found.
func checkSearch(t *testing.T, in, a keyed) {
	t.Helper()
	at := found(in, a)
	for origin := range 2 {
		l, wantE := slices.Clone(at), api.OK
		for i := range l {
			l[i] += origin
		}
		if len(in.a.Shape()) > 1 {
			wantE = api.ErrRank
		}
		got, e := Index(in.a, a.a, origin)
		isOrFails(t, got, e, told(a.a.Shape(), l), wantE, "Index of", a.a, "in", in.a, "from", origin)
	}
	for i := range at {
		if at[i] < len(in.keys) {
			at[i] = 1
		} else {
			at[i] = 0
		}
	}
	isOrFails(t, Member(a.a, in.a), api.OK, told(a.a.Shape(), at), api.OK, "Member of", a.a, "in", in.a)
}

// someOf are arrays of a shape, of both kinds, whose elements are equal here and there.
func someOf(t *testing.T, s []int) []array.Array {
	t.Helper()
	return []array.Array{
		numsOf(t, s, "0"),
		numsOf(t, s, "3 1 2 1 5 0 97"),
		numsOf(t, s, "-1/2 7/3 0 1/2 -7/3 3 -1/2 14/3 1"),
		numsOf(t, s, near(64, -1)+" 1/"+near(64, -1)+" 0 -"+near(64, -1)+" "+near(64, -2)+" "+near(2, 0)+" 1"),
		charsOf(t, s, 0),
		charsOf(t, s, []rune("banana\x00\x01")...),
		charsOf(t, s, farRunes...),
	}
}

// TestSearchesOfMany: arrays of all shapes and both kinds in each other, against another
// way of searching.
func TestSearchesOfMany(t *testing.T) {
	all := make([][]keyed, len(known))
	for i, s := range known {
		for _, a := range someOf(t, s) {
			all[i] = append(all[i], withKeys(a))
		}
	}
	for m, s := range known {
		for n, r := range known {
			for i, in := range all[m] {
				for k, a := range all[n] {
					// Of the greater arrays, some pairs are enough.
					if sizeOf(s)*sizeOf(r) < 2000 || (i+k)%5 == 0 {
						checkSearch(t, in, a)
					}
				}
			}
		}
	}
}

// TestSearchesOfFew: all lists of up to four of three elements, in each other.
func TestSearchesOfFew(t *testing.T) {
	lists := [][]rune{nil}
	for at := 0; at < len(lists); at++ {
		for c := range rune(3) {
			if len(lists[at]) < 4 {
				lists = append(lists, append(slices.Clone(lists[at]), c))
			}
		}
	}
	for _, in := range lists {
		for _, l := range lists {
			if len(l) < 3 {
				checkSearch(t, withKeys(array.Text(in)), withKeys(array.Text(l)))
				checkSearch(t, withKeys(numbersOf(in)), withKeys(numbersOf(l)))
			}
		}
	}
}

// numbersOf is a list of the numbers of characters.
func numbersOf(l []rune) array.Array {
	var n []int
	for _, c := range l {
		n = append(n, int(c))
	}
	return array.Ints(n...)
}

// TestSearchInTheLongest: in MaxItems elements, each where it stands, and the place after
// the last one, which is beyond MaxItems with origin 1.
func TestSearchInTheLongest(t *testing.T) {
	// 2731 is odd, so that each number below 4096 occurs once.
	down, twice := make([]int, 4096), make([]int, 4096)
	for i := range down {
		down[i], twice[i] = 2731*i%4096, 2731*i%2048
	}
	for origin := range 2 {
		for _, l := range [][]int{down, twice} {
			in := array.Ints(l...)
			b, e := Index(in, in, origin)
			got, _ := b.Whole()
			if e != api.OK || len(got) != 4096 {
				t.Fatal(short(b), e)
			}
			for i, k := range l {
				if at := got[i] - origin; at < 0 || at > i || l[at] != k || slices.Index(l, k) != at {
					t.Fatalf("%d stands at %d, not %d", k, slices.Index(l, k), at)
				}
			}
			b, e = Index(in, array.Ints(-1, 4096, 5000), origin)
			isOrFails(t, b, e, told([]int{3}, []int{4096 + origin, 4096 + origin, 4096 + origin}), api.OK, "Index of none")
			isOrFails(t, Member(array.Ints(-1, 2047, 4096), in), api.OK, "3:0 1 0", api.OK, "Member")
		}
	}
	last := make([]rune, 4096)
	last[4095] = 'x'
	b, e := Index(array.Text(last), array.Text([]rune("yx")), 1)
	isOrFails(t, b, e, "2:4097 4096", api.OK, "Index of the last")
	b, e = Index(array.Int(1), array.Text(last), 1)
	if l, ok := b.Whole(); e != api.OK || !ok || len(l) != 4096 || slices.Min(l) != 2 || slices.Max(l) != 2 {
		t.Errorf("Index of characters in a number: %s and error %d", short(b), e)
	}
}

// TestSearchWrittenOtherwise: numbers that are equal are the same, however they were
// written or made.
func TestSearchWrittenOtherwise(t *testing.T) {
	for _, c := range []struct {
		want    string
		written []string
	}{
		{"0", []string{"0", "0.0", "000", "\u00af0", "0E5", "\u00af0.00E\u00af7", ".0"}},
		{"3/2", []string{"1.5", "1.50", "01.5", "15E\u00af1", ".15E1", "0.0015E3", "150E\u00af2"}},
		{"-1/4", []string{"\u00af.25", "\u00af0.25", "\u00af25E\u00af2", "\u00af0.250"}},
		{"100", []string{"100", "1E2", "0100", "100.00", "1000E\u00af1", ".1E3"}},
		{"100000000000000000000", []string{"100000000000000000000", "1E20", "10E19", "100000000000000000000.0", "0.01E22"}},
	} {
		in := of(t, "1:"+c.want)
		for _, text := range c.written {
			x, next, ok := deci.Read([]rune(text), 0)
			if !ok || next != len([]rune(text)) {
				t.Fatal(text)
			}
			for _, a := range made(x) {
				b, e := Index(in, array.Num(a), 1)
				isOrFails(t, b, e, ":1", api.OK, "Index of", text, "in", c.want)
				b, e = Index(array.Num(a), in, 0)
				isOrFails(t, b, e, "1:0", api.OK, "Index of", c.want, "in", text)
				isOrFails(t, Member(array.Num(a), in), api.OK, ":1", api.OK, "Member", text, "in", c.want)
				isOrFails(t, Member(in, array.Num(a)), api.OK, "1:1", api.OK, "Member", c.want, "in", text)
			}
		}
	}
}

// made are numbers that are x, made in several ways.
func made(x ratio.Rat) []ratio.Rat {
	six := whole.From(-6)
	quotient, _ := ratio.New(x.Top().Times(six), whole.Of(false, x.Bot()).Times(six))
	half, _ := ratio.New(whole.From(1), whole.From(2))
	read, _ := ratio.Of(x.Num())
	return []ratio.Rat{
		x,
		quotient,
		read,
		x.Minus().Minus(),
		x.Plus(half, half.Minus()),
		x.Times(half, ratio.From(2)),
		ratio.From(0).Plus(x),
	}
}

// TestSearchFromWhatever: the chapter speaks of the origins 0 and 1 alone, but no other
// one leads to a panic.
func TestSearchFromWhatever(t *testing.T) {
	for _, origin := range []int{math.MinInt, -1, 2, math.MaxInt} {
		for _, c := range searches {
			a := of(t, c.a)
			if b, e := Index(of(t, c.in), a, origin); e != c.e || e == api.OK && b.Len() != a.Len() {
				t.Errorf("Index of %s in %s from %d: %s and error %d", c.a, c.in, origin, tell(b), e)
			}
		}
	}
}

// TestSearchKeeps: the arrays stay as they were, also where one is both; and so do the
// answers.
func TestSearchKeeps(t *testing.T) {
	for _, c := range searches {
		in, a := of(t, c.in), of(t, c.a)
		at, _ := Index(in, a, 1)
		is := Member(a, in)
		for origin := range 2 {
			for _, x := range []array.Array{in, a, at, is} {
				for _, y := range []array.Array{in, a, at, is} {
					Index(x, y, origin)
					Member(x, y)
				}
			}
		}
		if tell(in) != c.in || tell(a) != c.a || tell(is) != c.member || c.e == api.OK && tell(at) != c.from1 {
			t.Errorf("%s and %s changed to %s and %s, or their answers to %s and %s", c.in, c.a, tell(in), tell(a), tell(at), tell(is))
		}
	}
}
