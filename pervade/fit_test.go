package pervade

import (
	"fmt"
	"slices"
	"testing"

	"typeball/api"
	"typeball/array"
)

// fitting is a call of Fit, with what it answers, or with its error.
type fitting struct {
	a, b  string
	s     []int
	oneA  bool
	oneB  bool
	wantE api.Errno
}

// fittings are calls whose answers are written out.
var fittings = []fitting{
	// One shape, also of one element.
	{a: ":1", b: ":2"},
	{a: ":1", b: "'x"},
	{a: "1:1", b: "1:2", s: []int{1}},
	{a: "1'x", b: "1'y", s: []int{1}},
	{a: "1 1:1", b: "1 1:2", s: []int{1, 1}},
	{a: "1 1 1 1 1 1 1 1:1", b: "1 1 1 1 1 1 1 1:1", s: []int{1, 1, 1, 1, 1, 1, 1, 1}},
	{a: "0:", b: "0:", s: []int{0}},
	{a: "0:", b: "0'", s: []int{0}},
	{a: "3:1 2 3", b: "3'abc", s: []int{3}},
	{a: "2 3'abcdef", b: "2 3'abcdef", s: []int{2, 3}},
	{a: "2 0 3'", b: "2 0 3:", s: []int{2, 0, 3}},

	// One element beside another number of elements: none, and many.
	{a: ":1", b: "0:", s: []int{0}, oneA: true},
	{a: "0:", b: ":1", s: []int{0}, oneB: true},
	{a: "1:1", b: "0:", s: []int{0}, oneA: true},
	{a: "0'", b: "1:1", s: []int{0}, oneB: true},
	{a: "1 1 1'x", b: "0:", s: []int{0}, oneA: true},
	{a: "0:", b: "1 1 1'x", s: []int{0}, oneB: true},
	{a: "1 1:1", b: "0 3:", s: []int{0, 3}, oneA: true},
	{a: "1 0:", b: "1 1:1", s: []int{1, 0}, oneB: true},
	{a: ":1", b: "3:1 2 3", s: []int{3}, oneA: true},
	{a: "3:1 2 3", b: ":1", s: []int{3}, oneB: true},
	{a: "1:1", b: "3:1 2 3", s: []int{3}, oneA: true},
	{a: "3:1 2 3", b: "1'x", s: []int{3}, oneB: true},
	{a: "1:1", b: "2 2:1 2 3 4", s: []int{2, 2}, oneA: true},
	{a: "1 2:1 2", b: "1:1", s: []int{1, 2}, oneB: true},
	{a: "1 1 1:1", b: "2:1 2", s: []int{2}, oneA: true},
	{a: "2:1 2", b: "1 1 1:1", s: []int{2}, oneB: true},
	{a: "1 1 1 1 1 1 1 1:1", b: "2 1:1 2", s: []int{2, 1}, oneA: true},
	{a: "2 1:1 2", b: "1 1 1 1 1 1 1 1'x", s: []int{2, 1}, oneB: true},

	// One element beside one element with another number of axes: the shape is that of
	// more axes.
	{a: ":1", b: "1:1", s: []int{1}, oneA: true},
	{a: "1:1", b: ":1", s: []int{1}, oneB: true},
	{a: "1:1", b: "1 1'x", s: []int{1, 1}, oneA: true},
	{a: "1 1'x", b: "1'y", s: []int{1, 1}, oneB: true},
	{a: ":1", b: "1 1 1 1 1 1 1 1:1", s: []int{1, 1, 1, 1, 1, 1, 1, 1}, oneA: true},
	{a: "1 1 1 1 1 1 1 1:1", b: ":1", s: []int{1, 1, 1, 1, 1, 1, 1, 1}, oneB: true},

	// Another number of axes, and other lengths.
	{a: "2:1 2", b: "2 2:1 2 3 4", wantE: api.ErrRank},
	{a: "2 2:1 2 3 4", b: "2:1 2", wantE: api.ErrRank},
	{a: "4:1 2 3 4", b: "2 2:1 2 3 4", wantE: api.ErrRank},
	{a: "2:1 2", b: "2 1:1 2", wantE: api.ErrRank},
	{a: "2:1 2", b: "1 2:1 2", wantE: api.ErrRank},
	{a: "0:", b: "0 0:", wantE: api.ErrRank},
	{a: "0'", b: "2 3'abcdef", wantE: api.ErrRank},
	{a: "2 1 1:1 2", b: "2 1:1 2", wantE: api.ErrRank},
	{a: "2:1 2", b: "3:1 2 3", wantE: api.ErrLength},
	{a: "3:1 2 3", b: "2:1 2", wantE: api.ErrLength},
	{a: "0:", b: "2:1 2", wantE: api.ErrLength},
	{a: "2'ab", b: "0'", wantE: api.ErrLength},
	{a: "2 3'abcdef", b: "3 2'abcdef", wantE: api.ErrLength},
	{a: "2 1:1 2", b: "1 2:1 2", wantE: api.ErrLength},
	{a: "0 3:", b: "3 0:", wantE: api.ErrLength},
	{a: "0 3:", b: "0 2:", wantE: api.ErrLength},
	{a: "2 3 2'abcdefghijkl", b: "2 2 3'abcdefghijkl", wantE: api.ErrLength},
}

// fits checks one call of Fit.
func fits(t *testing.T, a, b array.Array, want fitting) {
	t.Helper()
	s, oneA, oneB, e := Fit(a, b)
	if !slices.Equal(s, want.s) || oneA != want.oneA || oneB != want.oneB || e != want.wantE {
		t.Errorf("Fit of %s and %s: %v %v %v %d, not %v", short(tell(a)), short(tell(b)), s, oneA, oneB, e, want)
	}
}

func TestFit(t *testing.T) {
	for _, c := range fittings {
		fits(t, of(t, c.a), of(t, c.b), c)
	}
}

// fitOf is what Fit answers, worked out from the shapes alone.
func fitOf(s, t []int) fitting {
	n, m := sizeOf(s), sizeOf(t)
	switch {
	case slices.Equal(s, t):
		return fitting{s: s}
	case n == 1 && m == 1 && len(s) < len(t), n == 1 && m != 1:
		return fitting{s: t, oneA: true}
	case m == 1:
		return fitting{s: s, oneB: true}
	case len(s) == len(t):
		return fitting{wantE: api.ErrLength}
	}
	return fitting{wantE: api.ErrRank}
}

// kinds are an array of numbers and one of characters of a shape.
func kinds(t *testing.T, s []int) []array.Array {
	return []array.Array{numsOf(t, s, "0 1 2"), charsOf(t, s, "abc")}
}

// TestFitOfMany: each shape beside each other, whatever the arrays are of.
func TestFitOfMany(t *testing.T) {
	for _, s := range known {
		for _, r := range known {
			for _, a := range kinds(t, s) {
				for _, b := range kinds(t, r) {
					fits(t, a, b, fitOf(s, r))
				}
			}
		}
	}
}

// TestFitOfZero: the zero value is a list without numbers.
func TestFitOfZero(t *testing.T) {
	fits(t, array.Array{}, array.Array{}, fitting{s: []int{0}})
	fits(t, array.Array{}, array.Int(1), fitting{s: []int{0}, oneB: true})
	fits(t, array.Char('x'), array.Array{}, fitting{s: []int{0}, oneA: true})
	fits(t, array.Array{}, of(t, "0 0:"), fitting{wantE: api.ErrRank})
}

// TestFitIsNew: the shape is new memory, from call to call: no array changes with it.
func TestFitIsNew(t *testing.T) {
	for _, c := range fittings {
		a, b := of(t, c.a), of(t, c.b)
		for range 2 {
			s, _, _, _ := Fit(a, b)
			if !slices.Equal(s, c.s) {
				t.Errorf("Fit of %s and %s: %v", c.a, c.b, s)
			}
			for axis := range s {
				s[axis] = 77
			}
			_ = append(s, 78)
		}
		if tell(a) != c.a || tell(b) != c.b {
			t.Error(fmt.Sprint(c.a, " and ", c.b, " changed to ", tell(a), " and ", tell(b)))
		}
	}
}
