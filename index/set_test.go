package index

import (
	"slices"
	"testing"

	"typeball/api"
	"typeball/array"
	"typeball/ratio"
)

// setting is a call of Set, with what it answers, or with its error.
type setting struct {
	a, v, by string
	origin   int
	want     string
	wantE    api.Errno
}

// settings are calls whose answers are written out.
var settings = []setting{
	// The chapter's example, and others with a v without axes.
	{a: "3:5 6 7", v: ":9", by: ":2", origin: 1, want: "3:5 9 7"},
	{a: "3:5 6 7", v: ":9", by: ":2", origin: 0, want: "3:5 6 9"},
	{a: "3:5 6 7", v: ":-1/2", by: "*", origin: 1, want: "3:-1/2 -1/2 -1/2"},
	{a: "3'abc", v: "'x", by: "2:3 1", origin: 1, want: "3'xbx"},
	{a: "3'abc", v: "'x", by: "2 2:3 3 2 3", origin: 1, want: "3'axx"},
	{a: "2 3:1 2 3 4 5 6", v: ":9", by: "*;:2", origin: 1, want: "2 3:1 9 3 4 9 6"},
	{a: "2 3:1 2 3 4 5 6", v: ":9", by: ":0;*", origin: 0, want: "2 3:9 9 9 4 5 6"},
	{a: "2 3:1 2 3 4 5 6", v: ":9", by: ":2;:3", origin: 1, want: "2 3:1 2 3 4 5 9"},
	{a: "2 3:1 2 3 4 5 6", v: ":9", by: "2:2 2;2:1 3", origin: 1, want: "2 3:1 2 3 9 5 9"},

	// With as many axes as what Index answers.
	{a: "3:5 6 7", v: "2:8 9", by: "2:3 1", origin: 1, want: "3:9 6 8"},
	{a: "3:5 6 7", v: "1:8", by: "1:2", origin: 1, want: "3:5 8 7"},
	{a: "3'abc", v: "3'xyz", by: "*", origin: 1, want: "3'xyz"},
	{a: "3'abc", v: "1 2'xy", by: "1 2:1 3", origin: 1, want: "3'xby"},
	{a: "2 3:1 2 3 4 5 6", v: "2:8 9", by: "*;:2", origin: 1, want: "2 3:1 8 3 4 9 6"},
	{a: "2 3:1 2 3 4 5 6", v: "3:7 8 9", by: ":2;*", origin: 1, want: "2 3:1 2 3 7 8 9"},
	{a: "2 3'abcdef", v: "2 2'wxyz", by: "2:2 1;2:1 3", origin: 1, want: "2 3'ybzwex"},
	{a: "2 3'abcdef", v: "2 3'uvwxyz", by: "*;*", origin: 0, want: "2 3'uvwxyz"},
	{a: "2 3'abcdef", v: "1 1'x", by: "1:1;1:2", origin: 0, want: "2 3'abcdex"},
	{a: "2 2 3'abcdefghijkl", v: "2 2'wxyz", by: "*;:1;2:3 1", origin: 1, want: "2 2 3'xbwdefzhyjkl"},

	// With another number of axes, or with other lengths.
	{a: "3:5 6 7", v: "1:9", by: ":2", origin: 1, wantE: api.ErrRank},
	{a: "3:5 6 7", v: "0:", by: ":2", origin: 1, wantE: api.ErrRank},
	{a: "3:5 6 7", v: "1 2:8 9", by: "2:1 2", origin: 1, wantE: api.ErrRank},
	{a: "3:5 6 7", v: "3 1:7 8 9", by: "*", origin: 1, wantE: api.ErrRank},
	{a: "2 3'abcdef", v: "2'xy", by: "2:1 2;1:1", origin: 1, wantE: api.ErrRank},
	{a: "2 3'abcdef", v: "1'x", by: ":1;:1", origin: 1, wantE: api.ErrRank},
	{a: "2 3'abcdef", v: "6'uvwxyz", by: "*;*", origin: 1, wantE: api.ErrRank},
	{a: "3:5 6 7", v: "1:9", by: "2:1 2", origin: 1, wantE: api.ErrLength},
	{a: "3:5 6 7", v: "1:9", by: "*", origin: 1, wantE: api.ErrLength},
	{a: "3:5 6 7", v: "3:7 8 9", by: "2:1 2", origin: 1, wantE: api.ErrLength},
	{a: "3:5 6 7", v: "0:", by: "1:1", origin: 1, wantE: api.ErrLength},
	{a: "2 3'abcdef", v: "3 2'uvwxyz", by: "*;*", origin: 1, wantE: api.ErrLength},
	{a: "2 3'abcdef", v: "1 3'xyz", by: "*;*", origin: 1, wantE: api.ErrLength},
	{a: "2 3'abcdef", v: "2 1'xy", by: "*;*", origin: 1, wantE: api.ErrLength},

	// No combinations of indices.
	{a: "3:5 6 7", v: ":9", by: "0:", origin: 1, want: "3:5 6 7"},
	{a: "3:5 6 7", v: "'x", by: "0:", origin: 1, want: "3:5 6 7"},
	{a: "3'abc", v: "0:", by: "0'", origin: 1, want: "3'abc"},
	{a: "3'abc", v: "0'", by: "0'", origin: 1, want: "3'abc"},
	{a: "3'abc", v: "1'x", by: "0:", origin: 1, wantE: api.ErrLength},
	{a: "3'abc", v: "1:9", by: "0:", origin: 1, wantE: api.ErrLength},
	{a: "3'abc", v: "0 0'", by: "0:", origin: 1, wantE: api.ErrRank},
	{a: "3'abc", v: "2 0:", by: "0:", origin: 1, wantE: api.ErrRank},
	{a: "3'abc", v: "2 0:", by: "2 0:", origin: 1, want: "3'abc"},
	{a: "3'abc", v: "0 2:", by: "2 0:", origin: 1, wantE: api.ErrLength},
	{a: "0'", v: ":9", by: "*", origin: 1, want: "0'"},
	{a: "0:", v: "'x", by: "*", origin: 1, want: "0:"},
	{a: "0:", v: "0'", by: "*", origin: 1, want: "0:"},
	{a: "0 3'", v: ":9", by: "*;:2", origin: 1, want: "0 3'"},
	{a: "0 3'", v: "0 2:", by: "*;2:2 3", origin: 1, want: "0 3'"},
	{a: "2 3'abcdef", v: ":9", by: "*;0:", origin: 1, want: "2 3'abcdef"},
	{a: "2 3'abcdef", v: "2 0:", by: "*;0:", origin: 1, want: "2 3'abcdef"},
	{a: "2 3'abcdef", v: "0:", by: "*;0:", origin: 1, wantE: api.ErrRank},
	{a: "2 3'abcdef", v: ":9", by: ":3;0:", origin: 1, wantE: api.ErrIndex},

	// Of two kinds.
	{a: "3:5 6 7", v: "'x", by: ":2", origin: 1, wantE: api.ErrDomain},
	{a: "3'abc", v: ":9", by: "*", origin: 1, wantE: api.ErrDomain},
	{a: "3'abc", v: "3:7 8 9", by: "*", origin: 1, wantE: api.ErrDomain},
	{a: "3:7 8 9", v: "1'x", by: "1:3", origin: 1, wantE: api.ErrDomain},
	{a: ":5", v: "'x", by: "", origin: 1, wantE: api.ErrDomain},
	{a: "'x", v: ":5", by: "", origin: 1, wantE: api.ErrDomain},
	{a: "3'abc", v: "2:7 8", by: "*", origin: 1, wantE: api.ErrLength},
	{a: "3'abc", v: "1 3:7 8 9", by: "*", origin: 1, wantE: api.ErrRank},

	// Numbers that occur twice: the later one wins.
	{a: "3:5 6 7", v: "2:8 9", by: "2:2 2", origin: 1, want: "3:5 9 7"},
	{a: "3'abc", v: "5'vwxyz", by: "5:1 3 1 1 3", origin: 1, want: "3'ybz"},
	{a: "3'abc", v: "2 2'wxyz", by: "2 2:1 2 1 2", origin: 1, want: "3'yzc"},
	{a: "2 3'abcdef", v: "2 3'uvwxyz", by: "2:1 1;*", origin: 1, want: "2 3'xyzdef"},
	{a: "2 3'abcdef", v: "2 2'wxyz", by: "*;2:3 3", origin: 1, want: "2 3'abxdez"},
	{a: "2 3'abcdef", v: "2 2'wxyz", by: "2:2 2;2:3 3", origin: 1, want: "2 3'abcdez"},
	{a: "2 3'abcdef", v: "3 3'qrstuvxyz", by: "3:2 1 2;3:1 3 1", origin: 1, want: "2 3'vbuzey"},

	// Without axes.
	{a: ":5", v: ":9", by: "", origin: 1, want: ":9"},
	{a: "'x", v: "'y", by: "", origin: 0, want: "'y"},
	{a: ":5", v: "1:9", by: "", origin: 1, wantE: api.ErrRank},
	{a: ":5", v: "0:", by: "", origin: 1, wantE: api.ErrRank},
	{a: "'x", v: "1 1'y", by: "", origin: 1, wantE: api.ErrRank},
	{a: ":5", v: ":9", by: "*", origin: 1, wantE: api.ErrRank},
	{a: ":5", v: ":9", by: ":1", origin: 1, wantE: api.ErrRank},

	// The errors of Index come first.
	{a: "3'abc", v: ":9", by: "", origin: 1, wantE: api.ErrRank},
	{a: "3'abc", v: "2:8 9", by: "*;*", origin: 1, wantE: api.ErrRank},
	{a: "3'abc", v: "1 2'xy", by: "1:1/2", origin: 1, wantE: api.ErrDomain},
	{a: "3'abc", v: "2:8 9", by: "1:4", origin: 1, wantE: api.ErrIndex},
	{a: "3'abc", v: "1 1:8", by: "1:0", origin: 1, wantE: api.ErrIndex},
	{a: "3'abc", v: ":8", by: ":0", origin: 1, wantE: api.ErrIndex},
	{a: "2 3'abcdef", v: ":8", by: "1 1 1 1 1 1 1 1:1;*", origin: 1, wantE: api.ErrRank},
	{a: "2 3'abcdef", v: "'x", by: "1 1 1 1 1 1 1 1:1;*", origin: 1, wantE: api.ErrRank},
	{a: "2 3'abcdef", v: "'x", by: "0 4096:;*", origin: 1, wantE: api.ErrLimit},
	{a: "2 3'abcdef", v: "3:7 8 9", by: "0 4096:;*", origin: 1, wantE: api.ErrLimit},
	{a: "2 3'abcdef", v: "1 2 3:1 2 3 4 5 6", by: "0 4096:;*", origin: 1, wantE: api.ErrLimit},
}

func TestSet(t *testing.T) {
	for _, c := range settings {
		got, e := Set(of(t, c.a), of(t, c.v), c.origin, subs(t, c.by)...)
		isOrFails(t, c.v+" at "+c.by+" of "+c.a, got, e, c.want, c.wantE)
	}
}

// TestSetErrors: the errors of Index are those of Set.
func TestSetErrors(t *testing.T) {
	for _, c := range indexings {
		a := of(t, c.a)
		for _, v := range []array.Array{array.Int(5), array.Char('x'), {}, array.Ints(1, 2), array.None(true)} {
			if c.wantE != api.OK {
				got, e := Set(a, v, c.origin, subs(t, c.by)...)
				fails(t, c.a+" by "+c.by, got, e, c.wantE)
			}
		}
	}
}

// values are arrays to be put in place of what Index answers, if it answers a shape:
// of this shape, without axes, and of other shapes.
func values(t *testing.T, s []int) []array.Array {
	l := slices.Concat(both(t, s, 10000), both(t, nil, 20000))
	for axis, n := range s {
		for _, m := range []int{n - 1, n + 1, 0, 1} {
			r := slices.Clone(s)
			r[axis] = m
			if isShape(r) {
				l = append(l, both(t, r, 10000)...)
			}
		}
	}
	for _, r := range [][]int{append(slices.Clone(s), 1), append([]int{1}, s...), slices.Repeat([]int{1}, 8)} {
		if isShape(r) {
			l = append(l, both(t, r, 10000)...)
		}
	}
	if len(s) > 0 {
		l = append(l, both(t, s[1:], 10000)...)
		l = append(l, both(t, s[:len(s)-1], 10000)...)
	}
	return l
}

// TestSetOfAll: each array by many Subs and many values, right and wrong ones, against
// another way of working it out.
func TestSetOfAll(t *testing.T) {
	calls := map[api.Errno]int{}
	for _, s := range known {
		for _, a := range both(t, s, 0) {
			for turn := range 75 {
				origin := turn / 2 % 2
				by := someSubs(s, origin, turn)
				r, _, _ := chosenOf(a, origin, by)
				for i, v := range values(t, r) {
					if size(r)+size(s) > 300 && (i+turn)%5 > 0 {
						continue
					}
					want, wantE := setOf(a, v, origin, by)
					calls[wantE]++
					b, e := Set(a, v, origin, by...)
					isOrFails(t, short(v.Shape(), " at ", tellSubs(by), " of ", s, " from ", origin), b, e, want, wantE)
				}
			}
		}
	}
	for _, e := range []api.Errno{api.OK, api.ErrRank, api.ErrLength, api.ErrDomain, api.ErrIndex, api.ErrLimit} {
		if calls[e] < 100 {
			t.Errorf("only %d calls with error %d", calls[e], e)
		}
	}
}

// once are Subs for a shape in which no number occurs twice, one of many.
func once(s []int, origin, turn int) []Sub {
	by := make([]Sub, len(s))
	for axis, n := range s {
		turn += axis
		if turn%4 == 0 || n == 0 {
			by[axis].All = turn%2 == 0
			continue
		}
		many := []int{n, max(n-1, 1), 1, n - n/2, n, n, 0}[turn%7]
		shapes := [][]int{{many}, {1, many}, {many}}
		if many == 1 {
			shapes[2] = nil
		}
		// A last number, and each one before the one behind it.
		by[axis].A, _ = array.Nums(shapes[turn%3], stepped(many, turn, n*n-1, n, origin)...)
	}
	return by
}

// TestIndexAnswersWhatSetStored: if no number occurs twice along an axis (P11.3).
func TestIndexAnswersWhatSetStored(t *testing.T) {
	several := 0
	for _, s := range known {
		for kind, a := range both(t, s, 0) {
			for turn := range 60 {
				origin := turn % 2
				by := once(s, origin, turn)
				r, places, e := chosenOf(a, origin, by)
				if e == api.ErrRank {
					continue
				}
				if slices.Sort(places); e != api.OK || len(slices.Compact(places)) < size(r) {
					t.Fatal(s, tellSubs(by), e)
				}
				if size(r) > 1 {
					several++
				}
				stored(t, a, both(t, r, 10000)[kind], origin, by)
				one := both(t, nil, 20000)[kind]
				everywhere, _ := one.Pick(r, make([]int, size(r)))
				b, _ := Set(a, one, origin, by...)
				c, e := Index(b, origin, by...)
				is(t, short(s, " by ", tellSubs(by)), c, e, tell(everywhere))
			}
		}
	}
	if several < 1000 {
		t.Errorf("only %d calls with several elements", several)
	}
}

// stored reports an error unless Index answers what Set stored, and the rest is as it
// was: what Index answered ahead of it, stored again, is the array as it was.
func stored(t *testing.T, a, v array.Array, origin int, by []Sub) {
	t.Helper()
	what := short(a.Shape(), " by ", tellSubs(by))
	was, e := Index(a, origin, by...)
	if e != api.OK {
		t.Fatal(what, e)
	}
	b, e := Set(a, v, origin, by...)
	if e != api.OK {
		t.Fatal(what, e)
	}
	c, e := Index(b, origin, by...)
	is(t, what, c, e, tell(v))
	d, e := Set(b, was, origin, by...)
	is(t, what, d, e, tell(a))
}

// change writes over all that an array hands out.
func change(a array.Array) {
	s, nums, text := a.Shape(), a.Rats(), a.Runes()
	p := a.Plain()
	for _, l := range [][]int{s, p.Shape} {
		for i := range l {
			l[i] = 77
		}
	}
	for i := range nums {
		nums[i] = ratio.From(-77)
	}
	for i := range p.Nums {
		p.Nums[i].Top = "77"
	}
	for _, l := range [][]rune{text, p.Text} {
		for i := range l {
			l[i] = '#'
		}
	}
}

// answers are what the functions answer for an array of the shape 2 3, one of its
// columns, and one element.
func answers(t *testing.T, a, column, one array.Array) []array.Array {
	t.Helper()
	var l []array.Array
	add := func(b array.Array, e api.Errno) {
		if e != api.OK {
			t.Fatal(e)
		}
		l = append(l, b)
	}
	all, two, none := Sub{All: true}, Sub{A: array.Int(2)}, Sub{}
	add(Index(a, 1, all, all))
	add(Index(a, 1, all, two))
	add(Index(a, 1, two, all))
	add(Index(a, 1, two, two))
	add(Index(a, 1, none, all))
	add(Index(one, 1))
	add(Set(a, a, 1, all, all))
	add(Set(a, column, 1, all, two))
	add(Set(a, one, 1, two, all))
	add(Set(a, one, 1, none, all))
	add(Set(column, one, 1, two))
	add(Set(one, one, 1))
	return l
}

// toldAll writes arrays.
func toldAll(l []array.Array) []string {
	texts := make([]string, len(l))
	for i, a := range l {
		texts[i] = tell(a)
	}
	return texts
}

// TestMemory: what was handed in or out, changed afterwards, changes nothing.
func TestMemory(t *testing.T) {
	for _, a := range both(t, []int{2, 3}, 0) {
		column, _ := a.Pick([]int{2}, []int{0, 3})
		one, _ := a.Pick(nil, []int{4})
		given := []array.Array{a, column, one}
		l := answers(t, a, column, one)
		was, before := toldAll(l), toldAll(given)
		for _, x := range slices.Concat(l, given) {
			change(x)
		}
		if now := toldAll(l); !slices.Equal(now, was) {
			t.Errorf("%q became %q", was, now)
		}
		if now := toldAll(given); !slices.Equal(now, before) {
			t.Errorf("%q became %q", before, now)
		}
		if again := toldAll(answers(t, a, column, one)); !slices.Equal(again, was) {
			t.Errorf("%q, then %q", was, again)
		}
	}
}

// TestSubsStay: a list of Subs that is handed in is neither changed, nor what lies
// behind its end, nor kept.
func TestSubsStay(t *testing.T) {
	for _, a := range both(t, []int{2, 3}, 0) {
		by := []Sub{{All: true, A: array.Int(7)}, {A: array.Ints(3, 1)}, {A: array.Char('x')}}
		was := tellSubs(by)
		l := by[:2]
		v, _ := a.Pick([]int{2, 2}, []int{5, 4, 3, 2})
		b, e := Index(a, 1, l...)
		c, f := Set(a, v, 1, l...)
		if e != api.OK || f != api.OK {
			t.Fatal(e, f)
		}
		if now := tellSubs(by); now != was {
			t.Errorf("%s became %s", was, now)
		}
		told, also := tell(b), tell(c)
		l[0], l[1] = Sub{A: array.Int(1)}, Sub{A: array.Int(1)}
		if tell(b) != told || tell(c) != also {
			t.Errorf("%s and %s became %s and %s", told, also, tell(b), tell(c))
		}
	}
}

// TestArguments: no call changes the arrays it was handed, not even one with an error.
func TestArguments(t *testing.T) {
	for _, s := range known {
		for _, a := range both(t, s, 0) {
			was := tell(a)
			for turn := range 50 {
				by := someSubs(s, 1, turn)
				then := tellSubs(by)
				r, _, _ := chosenOf(a, 1, by)
				for _, v := range both(t, r, 10000) {
					before := tell(v)
					Index(a, 1, by...)
					Set(a, v, 1, by...)
					if tell(v) != before {
						t.Fatalf("%s became %s", short(before), short(tell(v)))
					}
				}
				if tell(a) != was || tellSubs(by) != then {
					t.Fatalf("%s and %s became %s and %s", short(was), short(then), short(tell(a)), short(tellSubs(by)))
				}
			}
		}
	}
}
