package find

import (
	"math"
	"slices"
	"strings"
	"testing"

	"typeball/api"
	"typeball/array"
)

// uptos are calls of Upto: what they answer with origin 0 and with origin 1, or the
// error with either.
var uptos = []struct {
	a, from0, from1 string
	e               api.Errno
}{
	// The chapter's example, in arrays with one element and at most one axis.
	{a: ":3", from0: "3:0 1 2", from1: "3:1 2 3"},
	{a: "1:3", from0: "3:0 1 2", from1: "3:1 2 3"},
	{a: ":0", from0: "0:", from1: "0:"},
	{a: "1:0", from0: "0:", from1: "0:"},
	{a: ":1", from0: "1:0", from1: "1:1"},
	{a: "1:1", from0: "1:0", from1: "1:1"},
	{a: ":2", from0: "2:0 1", from1: "2:1 2"},
	{a: "1:10", from0: "10:0 1 2 3 4 5 6 7 8 9", from1: "10:1 2 3 4 5 6 7 8 9 10"},

	// Not one element.
	{a: "0:", e: api.ErrRank},
	{a: "0'", e: api.ErrRank},
	{a: "2:1 2", e: api.ErrRank},
	{a: "2:3 3", e: api.ErrRank},
	{a: "2'ab", e: api.ErrRank},
	{a: "3:0 0 0", e: api.ErrRank},

	// More than one axis, with as many elements as may be.
	{a: "1 1:3", e: api.ErrRank},
	{a: "1 1:0", e: api.ErrRank},
	{a: "1 1 1:3", e: api.ErrRank},
	{a: "1 1 1 1 1 1 1 1:3", e: api.ErrRank},
	{a: "1 1'x", e: api.ErrRank},
	{a: "0 0:", e: api.ErrRank},
	{a: "1 0:", e: api.ErrRank},
	{a: "0 1'", e: api.ErrRank},
	{a: "2 2:1 2 3 4", e: api.ErrRank},
	{a: "1 2:1 2", e: api.ErrRank},
	{a: "2 1'ab", e: api.ErrRank},

	// Negative, or not Whole.
	{a: ":-1", e: api.ErrDomain},
	{a: "1:-1", e: api.ErrDomain},
	{a: ":-4097", e: api.ErrDomain},
	{a: ":-9223372036854775808", e: api.ErrDomain},
	{a: ":-9223372036854775809", e: api.ErrDomain},
	{a: ":1/2", e: api.ErrDomain},
	{a: "1:7/3", e: api.ErrDomain},
	{a: ":-1/2", e: api.ErrDomain},
	{a: ":8191/2", e: api.ErrDomain},
	{a: ":8193/2", e: api.ErrDomain},
	{a: ":12288/5", e: api.ErrDomain},
	{a: ":100000/7", e: api.ErrDomain},
	{a: ":9223372036854775808", e: api.ErrDomain},
	{a: ":18446744073709551616", e: api.ErrDomain},
	{a: "1:18446744073709551619", e: api.ErrDomain},
	{a: "'x", e: api.ErrDomain},
	{a: "1'x", e: api.ErrDomain},
	{a: "'3", e: api.ErrDomain},
	{a: "'\x00", e: api.ErrDomain},
	{a: "1'\x03", e: api.ErrDomain},

	// More than there may be.
	{a: ":4097", e: api.ErrLimit},
	{a: "1:4097", e: api.ErrLimit},
	{a: ":4098", e: api.ErrLimit},
	{a: ":65536", e: api.ErrLimit},
	{a: ":4294967296", e: api.ErrLimit},
	{a: ":4294967299", e: api.ErrLimit},
	{a: ":9223372036854775807", e: api.ErrLimit},

	// Which error comes first.
	{a: "1 1:-1", e: api.ErrRank},
	{a: "1 1:1/2", e: api.ErrRank},
	{a: "1 1:4097", e: api.ErrRank},
	{a: "2:-1 1/2", e: api.ErrRank},
	{a: "2:4097 4097", e: api.ErrRank},
	{a: "2:1/2 1", e: api.ErrRank},
	{a: "3 1'abc", e: api.ErrRank},
}

func TestUpto(t *testing.T) {
	for _, c := range uptos {
		for origin, want := range []string{c.from0, c.from1} {
			got, e := Upto(of(t, c.a), origin)
			isOrFails(t, got, e, want, c.e, "Upto", c.a, "from", origin)
		}
	}
}

// TestUptoOfMany: numbers up to MaxItems, and those after it.
func TestUptoOfMany(t *testing.T) {
	var want [2][]int
	for n := range api.MaxItems + 3 {
		if n%64 < 2 || n > api.MaxItems-3 {
			for origin := range want {
				for _, a := range []array.Array{array.Int(n), array.Ints(n)} {
					b, e := Upto(a, origin)
					if n > api.MaxItems {
						isOrFails(t, b, e, "", api.ErrLimit, "Upto", n, "from", origin)
						continue
					}
					l, ok := b.Whole()
					if e != api.OK || !ok || b.IsChar() || !slices.Equal(l, want[origin]) || !slices.Equal(b.Shape(), []int{n}) {
						t.Errorf("Upto %d from %d: %s and error %d", n, origin, short(b), e)
					}
				}
			}
		}
		want[0], want[1] = append(want[0], n), append(want[1], n+1)
	}
}

// TestUptoOfShapes: an array of any shape but those of one element in at most one axis is
// ErrRank, whatever its elements are.
func TestUptoOfShapes(t *testing.T) {
	for _, s := range known {
		for origin := range 2 {
			for _, from := range []string{"3", "0", "-1", "1/2", "4097", near(2, 0)} {
				a := numsOf(t, s, from)
				b, e := Upto(a, origin)
				if (e == api.ErrRank) == (len(s) < 2 && sizeOf(s) == 1) {
					t.Errorf("Upto %s from %d: error %d", short(a), origin, e)
				}
				if e != api.OK && !array.Same(b, array.Array{}) {
					t.Errorf("Upto %s from %d: %s beside an error", short(a), origin, short(b))
				}
			}
			wantE := api.ErrRank
			if len(s) < 2 && sizeOf(s) == 1 {
				wantE = api.ErrDomain
			}
			for _, c := range farRunes {
				b, e := Upto(charsOf(t, s, c), origin)
				isOrFails(t, b, e, "", wantE, "Upto of character", c, "in", s)
			}
		}
	}
}

// TestUptoOfWhatever: no number, and no origin, leads to a panic.
func TestUptoOfWhatever(t *testing.T) {
	ends := []int{math.MinInt, math.MinInt + 1, -4097, -4096, -2, -1, 0, 1, 2, 4095, 4096, 4097, math.MaxInt - 1, math.MaxInt}
	for _, n := range ends {
		for _, origin := range ends {
			want := api.OK
			if n < 0 {
				want = api.ErrDomain
			} else if n > 4096 {
				want = api.ErrLimit
			}
			if b, e := Upto(array.Int(n), origin); e != want || e == api.OK && b.Len() != n {
				t.Errorf("Upto %d from %d: %s and error %d", n, origin, short(b), e)
			}
		}
	}
	for _, text := range []string{near(64, -1), near(64, 0), "-" + near(64, 0), "1/" + near(64, -1), near(64, -1) + "/2"} {
		b, e := Upto(of(t, ":"+text), 0)
		isOrFails(t, b, e, "", api.ErrDomain, "Upto", text)
	}
}

// TestUptoKeeps: the array stays as it was, and so does an answer.
func TestUptoKeeps(t *testing.T) {
	for _, c := range uptos {
		a := of(t, c.a)
		first, _ := Upto(a, 1)
		for _, x := range first.Rats() {
			Upto(array.Num(x), 0)
		}
		Upto(a, 0)
		Upto(first, 1)
		if want := c.from1; tell(a) != c.a || c.e == api.OK && tell(first) != want {
			t.Errorf("%s and %s changed to %s and %s", c.a, want, tell(a), tell(first))
		}
	}
}

// TestUptoIsFound: each integer stands in Upto where it says, and Upto is its own order.
func TestUptoIsFound(t *testing.T) {
	for _, n := range []int{0, 1, 2, 17, 4095, 4096} {
		for origin := range 2 {
			a, _ := Upto(array.Int(n), origin)
			b, e := Index(a, a, origin)
			isOrFails(t, b, e, tell(a), api.OK, "Index of Upto", n)
			b, e = Grade(a, false, origin)
			isOrFails(t, b, e, tell(a), api.OK, "Grade of Upto", n)
			b, e = Grade(a, true, origin)
			words := strings.Fields(strings.SplitAfter(tell(a), ":")[1])
			slices.Reverse(words)
			isOrFails(t, b, e, strings.SplitAfter(tell(a), ":")[0]+strings.Join(words, " "), api.OK, "Grade down of Upto", n)
		}
	}
}
