package find

import (
	"fmt"
	"math"
	"slices"
	"strings"
	"testing"

	"typeball/api"
	"typeball/array"
)

// grades are lists, and where their elements stand in ascending and in descending order,
// counted from 1.
var grades = []struct{ a, up, down string }{
	// The chapter's example.
	{a: "3:3 1 2", up: "3:2 3 1", down: "3:1 3 2"},

	// No element, one, and two.
	{a: "0:", up: "0:", down: "0:"},
	{a: "0'", up: "0:", down: "0:"},
	{a: "1:7", up: "1:1", down: "1:1"},
	{a: "1'x", up: "1:1", down: "1:1"},
	{a: "2:1 2", up: "2:1 2", down: "2:2 1"},
	{a: "2:2 1", up: "2:2 1", down: "2:1 2"},
	{a: "2:1 1", up: "2:1 2", down: "2:1 2"},

	// Equal elements in their original order, both ways.
	{a: "4:5 5 5 5", up: "4:1 2 3 4", down: "4:1 2 3 4"},
	{a: "5:2 1 2 1 2", up: "5:2 4 1 3 5", down: "5:1 3 5 2 4"},
	{a: "6:3 1 2 3 1 2", up: "6:2 5 3 6 1 4", down: "6:1 4 3 6 2 5"},
	{a: "6'banana", up: "6:2 4 6 1 3 5", down: "6:3 5 1 2 4 6"},

	// Fractions, negative and great numbers.
	{a: "5:1/2 -1/2 0 1/3 -1/3", up: "5:2 5 3 4 1", down: "5:1 4 3 5 2"},
	{a: "4:-1 -2 -3 -2", up: "4:3 2 4 1", down: "4:1 2 4 3"},
	{a: "4:10 9 -10 -9", up: "4:3 4 2 1", down: "4:1 2 4 3"},
	{a: "4:7/3 2 5/2 9/4", up: "4:2 4 1 3", down: "4:3 1 4 2"},
	{a: "3:1/4294967296 0 -1/4294967296", up: "3:3 2 1", down: "3:1 2 3"},
	{a: "3:18446744073709551616 -18446744073709551616 4294967296", up: "3:2 3 1", down: "3:1 3 2"},
	{a: "3:9223372036854775808 -1 9223372036854775807", up: "3:2 3 1", down: "3:1 3 2"},

	// Characters by their numbers: not as words are, and not by their bytes.
	{a: "6'aBAb0 ", up: "6:6 5 3 2 1 4", down: "6:4 1 2 3 5 6"},
	{a: "3'\u2260\u00afz", up: "3:3 2 1", down: "3:1 2 3"},
	{a: "3'\U0001f600\uffee\x00", up: "3:3 2 1", down: "3:1 2 3"},
	{a: "3'910", up: "3:3 2 1", down: "3:1 2 3"},
}

// lessOne is a list of numbers of which each is one less.
func lessOne(t *testing.T, text string) string {
	t.Helper()
	l, ok := of(t, text).Whole()
	if !ok {
		t.Fatal(text)
	}
	for i := range l {
		l[i]--
	}
	return told([]int{len(l)}, l)
}

func TestGrade(t *testing.T) {
	for _, c := range grades {
		for down, want := range map[bool]string{false: c.up, true: c.down} {
			got, e := Grade(of(t, c.a), down, 1)
			isOrFails(t, got, e, want, api.OK, "Grade", c.a, down, "from 1")
			got, e = Grade(of(t, c.a), down, 0)
			isOrFails(t, got, e, lessOne(t, want), api.OK, "Grade", c.a, down, "from 0")
		}
	}
	for _, text := range []string{
		":3", ":0", "'x", "1 1:3", "1 1'x", "1 3:3 1 2", "3 1:3 1 2", "2 2:1 2 3 4", "2 2'abcd", "0 0:", "0 3'", "3 0:", "1 0'",
		"1 1 1:3", "1 1 1 1 1 1 1 1:3", "1 1 1 1 1 1 1 2'ab", "1 2 3 0 4 3 2 1:",
	} {
		for origin := range 2 {
			for _, down := range []bool{false, true} {
				got, e := Grade(of(t, text), down, origin)
				isOrFails(t, got, e, "", api.ErrRank, "Grade", text, down, "from", origin)
			}
		}
	}
}

// graded is where the elements stand in order: each behind all that come ahead of it.
func graded(a array.Array, down bool, origin int) string {
	values := valuesOf(a)
	l := make([]int, len(values))
	for i, x := range values {
		ahead := 0
		for k, y := range values {
			order := y.Cmp(x)
			if down {
				order = -order
			}
			if order < 0 || order == 0 && k < i {
				ahead++
			}
		}
		l[ahead] = i + origin
	}
	return told(a.Shape(), l)
}

// checkGrade checks Grade, both ways and with both origins, against graded.
func checkGrade(t *testing.T, a array.Array) {
	t.Helper()
	for origin := range 2 {
		for _, down := range []bool{false, true} {
			want, wantE := "", api.ErrRank
			if len(a.Shape()) == 1 {
				want, wantE = graded(a, down, origin), api.OK
			}
			got, e := Grade(a, down, origin)
			isOrFails(t, got, e, want, wantE, "Grade", a, down, "from", origin)
		}
	}
}

// TestGradeOfMany: arrays of all shapes and both kinds, against another way of sorting.
func TestGradeOfMany(t *testing.T) {
	for _, s := range known {
		for _, a := range someOf(t, s) {
			checkGrade(t, a)
		}
	}
	for n := range 40 {
		for _, a := range someOf(t, []int{n}) {
			checkGrade(t, a)
		}
	}
}

// TestGradeOfFew: all lists of up to five of four elements.
func TestGradeOfFew(t *testing.T) {
	lists := [][]rune{nil}
	for at := 0; at < len(lists); at++ {
		checkGrade(t, array.Text(lists[at]))
		checkGrade(t, numbersOf(lists[at]))
		for c := range rune(4) {
			if len(lists[at]) < 5 {
				lists = append(lists, append(slices.Clone(lists[at]), c-1))
			}
		}
	}
}

// TestGradeOfOrders: lists of numbers that rise, fall, or are in some other order, so
// long that no simple way of sorting is used for them.
func TestGradeOfOrders(t *testing.T) {
	for _, n := range []int{100, 257, 400} {
		rule := map[string]func(i int) int{
			"rising":  func(i int) int { return i },
			"falling": func(i int) int { return -i },
			"steps":   func(i int) int { return i / 7 },
			"waves":   func(i int) int { return i % 7 },
			"both":    func(i int) int { return max(i, n-i) },
			"mixed":   func(i int) int { return i * 7919 % 101 },
			"great":   func(i int) int { return i * 7919 % 101 * (math.MaxInt / 101) },
			"equal":   func(i int) int { return 3 },
		}
		for _, at := range rule {
			l, text := make([]int, n), make([]rune, n)
			for i := range n {
				l[i], text[i] = at(i), rune(at(i))
			}
			checkGrade(t, array.Ints(l...))
			checkGrade(t, array.Text(text))
		}
	}
}

// TestGradeOfTheLongest: MaxItems elements, once and several times each.
func TestGradeOfTheLongest(t *testing.T) {
	for _, kinds := range []int{1, 2, 100, 4096} {
		l := make([]int, 4096)
		for i := range l {
			l[i] = 2731 * i % 4096 % kinds
		}
		for _, down := range []bool{false, true} {
			b, e := Grade(array.Ints(l...), down, 1)
			at, ok := b.Whole()
			if e != api.OK || !ok || len(at) != 4096 {
				t.Fatal(kinds, down, e, short(b))
			}
			for i := range at[1:] {
				p, q := at[i]-1, at[i+1]-1
				if l[p] == l[q] && p >= q || down && l[p] < l[q] || !down && l[p] > l[q] {
					t.Fatalf("%d kinds, %v: %d ahead of %d", kinds, down, p, q)
				}
			}
		}
	}
}

// TestGradeIsAnOrder: the elements at the positions are in order, and each occurs.
func TestGradeIsAnOrder(t *testing.T) {
	for _, s := range known {
		for _, a := range someOf(t, s) {
			if len(s) != 1 {
				continue
			}
			up, _ := Grade(a, false, 0)
			at, _ := up.Whole()
			sorted, ok := a.Pick(s, at)
			if !ok {
				t.Fatal(short(a))
			}
			// In order already, so that each stays.
			again, e := Grade(sorted, false, 0)
			want, _ := Upto(array.Int(a.Len()), 0)
			isOrFails(t, again, e, tell(want), api.OK, "Grade of the sorted", a)
			keys, were := keysOf(sorted), keysOf(a)
			slices.Sort(keys)
			slices.Sort(were)
			if strings.Join(keys, " ") != strings.Join(were, " ") {
				t.Errorf("%s sorted: %s", short(a), short(sorted))
			}
		}
	}
}

// TestGradeFromWhatever: the chapter speaks of the origins 0 and 1 alone, but no other
// one leads to a panic.
func TestGradeFromWhatever(t *testing.T) {
	for _, origin := range []int{math.MinInt, -1, 2, math.MaxInt} {
		for _, c := range grades {
			a := of(t, c.a)
			if b, e := Grade(a, true, origin); e != api.OK || b.Len() != a.Len() {
				t.Errorf("Grade %s from %d: %s and error %d", c.a, origin, tell(b), e)
			}
		}
		if b, e := Grade(of(t, ":1"), true, origin); e != api.ErrRank || b.Len() != 0 {
			t.Errorf("Grade of no list from %d: %s and error %d", origin, tell(b), e)
		}
	}
}

// TestGradeKeeps: the list stays as it was, and so does an answer.
func TestGradeKeeps(t *testing.T) {
	for _, c := range grades {
		a := of(t, c.a)
		up, _ := Grade(a, false, 1)
		down, _ := Grade(a, true, 1)
		for _, x := range []array.Array{a, up, down} {
			Grade(x, false, 0)
			Grade(x, true, 1)
		}
		if tell(a) != c.a || tell(up) != c.up || tell(down) != c.down {
			t.Error(fmt.Sprint(c), "changed to", tell(a), tell(up), tell(down))
		}
	}
}
