package level

import (
	"fmt"
	"math"
	"math/rand"
	"reflect"
	"slices"
	"testing"

	"assize/api"
)

// top is where the document cuts numbers, written out.
const top = 1099511627776

// The levels of these tests are written out as data, so that no call that is
// tested stands on another one.
func num(n int) api.Level { return api.Level{Kind: api.LNum, N: n} }
func vari(i int) api.Level {
	return api.Level{Kind: api.LVar, N: i}
}
func more(n int, l api.Level) api.Level {
	return api.Level{Kind: api.LSucc, N: n, Kids: []api.Level{l}}
}
func greater(a, b api.Level) api.Level {
	return api.Level{Kind: api.LMax, Kids: []api.Level{a, b}}
}

// nested is n levels deep, with l at its end.
func nested(n int, l api.Level) api.Level {
	for range n - 1 {
		l = more(1, l)
	}
	return l
}

// balanced has n leaves, told by leaf, and so 2n - 1 nodes, at a small depth.
func balanced(from, n int, leaf func(int) api.Level) api.Level {
	if n == 1 {
		return leaf(from)
	}
	return greater(balanced(from, n/2, leaf), balanced(from+n/2, n-n/2, leaf))
}

// endless is a level that is its own kid.
func endless(kind int) api.Level {
	l := api.Level{Kind: kind, N: 1, Kids: make([]api.Level, 2)}
	if kind == api.LSucc {
		l.Kids = l.Kids[:1]
	}
	for i := range l.Kids {
		l.Kids[i] = l
	}
	return l
}

// doubled is small as data, but has 2^n leaves.
func doubled(n int, l api.Level) api.Level {
	for range n {
		l = greater(l, l)
	}
	return l
}

// copied2 is l in memory of its own, field by field.
func copied2(l api.Level) api.Level {
	c := l
	c.Kids = nil
	for _, k := range l.Kids {
		c.Kids = append(c.Kids, copied2(k))
	}
	return c
}

// scribble overwrites all of l's memory, and what lies behind its lists.
func scribble(l api.Level) {
	for i := range l.Kids {
		scribble(l.Kids[i])
	}
	all := l.Kids[:cap(l.Kids)]
	for i := range all {
		all[i] = api.Level{Kind: -7, N: -7}
	}
}

// unsound are levels each of which is not sound, for one reason.
func unsound() map[string]api.Level {
	kid := []api.Level{num(0)}
	two := []api.Level{num(0), num(0)}
	three := []api.Level{num(0), num(0), num(0)}
	return map[string]api.Level{
		"zero":              {},
		"kind 5":            {Kind: 5},
		"kind -1":           {Kind: -1},
		"number below":      num(-1),
		"number least":      num(math.MinInt),
		"number above":      num(top + 1),
		"number greatest":   num(math.MaxInt),
		"number with kid":   {Kind: api.LNum, Kids: kid},
		"variable below":    vari(-1),
		"variable least":    vari(math.MinInt),
		"variable above":    vari(1001),
		"variable greatest": vari(math.MaxInt),
		"variable with kid": {Kind: api.LVar, Kids: kid},
		"more by 0":         more(0, num(0)),
		"more by -1":        more(-1, num(5)),
		"more by above":     more(top+1, num(0)),
		"more of none":      {Kind: api.LSucc, N: 1},
		"more of two":       {Kind: api.LSucc, N: 1, Kids: two},
		"greater of none":   {Kind: api.LMax},
		"greater of one":    {Kind: api.LMax, Kids: kid},
		"greater of three":  {Kind: api.LMax, Kids: three},
		"kid":               more(1, api.Level{}),
		"left kid":          greater(num(-1), num(0)),
		"right kid":         greater(num(0), num(-1)),
		"far kid":           greater(num(0), more(2, greater(vari(1001), num(1)))),
		"257 deep":          nested(257, num(0)),
		"1001 nodes":        balanced(0, 501, num),
		"1001 nodes, even":  more(1, more(1, balanced(0, 500, num))),
		"endless more":      endless(api.LSucc),
		"endless greater":   endless(api.LMax),
		"2^100 leaves":      doubled(100, num(1)),
	}
}

// small are many levels of two variables and of numbers up to 6.
func small() []api.Level {
	l := []api.Level{num(0), num(1), num(2), vari(0), vari(1)}
	for range 2 {
		for _, a := range slices.Clone(l) {
			if len(l) < 60 {
				l = append(l, more(1, a), more(2, a))
			}
		}
		for i, a := range slices.Clone(l) {
			for j, b := range slices.Clone(l) {
				if (i+3*j)%7 == 0 && len(l) < 160 {
					l = append(l, greater(a, b))
				}
			}
		}
	}
	return l
}

// random is a level of at most so many levels, of variables below vars and
// numbers up to most.
func random(r *rand.Rand, depth, vars, most int) api.Level {
	switch k := r.Intn(6); {
	case depth > 1 && k < 3:
		return greater(random(r, depth-1, vars, most), random(r, depth-1, vars, most))
	case depth > 1 && k < 5:
		return more(1+r.Intn(most), random(r, depth-1, vars, most))
	case r.Intn(3) == 0:
		return num(r.Intn(most + 1))
	}
	return vari(r.Intn(vars))
}

// probed is what Norm must tell of l, which is sound, with numbers that are
// small, found by asking for values alone.
func probed(l api.Level) (int, []int) {
	const far = 1 << 30
	var ks []int
	for i := range 1001 {
		vs := make([]int, 1001)
		vs[i] = far
		if v := meant(l, vs); v >= far {
			for len(ks) < i {
				ks = append(ks, -1)
			}
			ks = append(ks, v-far)
		}
	}
	c := meant(l, make([]int, 1001))
	if slices.ContainsFunc(ks, func(k int) bool { return k >= c }) {
		c = 0
	}
	return c, ks
}

// meant is the value of l, which is sound, by the document's words; vs has all.
func meant(l api.Level, vs []int) int {
	v := 0
	switch l.Kind {
	case api.LNum:
		v = l.N
	case api.LVar:
		v = vs[l.N]
	case api.LSucc:
		v = l.N + meant(l.Kids[0], vs)
	case api.LMax:
		v = max(meant(l.Kids[0], vs), meant(l.Kids[1], vs))
	}
	return min(v, top)
}

// put is l with vs[i] in the place of the variable i.
func put(l api.Level, vs []api.Level) api.Level {
	if l.Kind == api.LVar && l.N < len(vs) {
		return vs[l.N]
	}
	for i, k := range slices.Clone(l.Kids) {
		if i == 0 {
			l.Kids = slices.Clone(l.Kids)
		}
		l.Kids[i] = put(k, vs)
	}
	return l
}

// norm is what Norm tells, as a text.
func norm(l api.Level) string {
	c, ks := Norm(l)
	return fmt.Sprint(c, ks)
}

func TestP6_1Kinds(t *testing.T) {
	u := vari(0)
	for i, c := range []struct{ got, want api.Level }{
		{Num(0), num(0)}, {Num(7), num(7)}, {Num(-1), num(-1)}, {Num(top + 1), num(top + 1)},
		{Num(math.MaxInt), num(math.MaxInt)}, {Num(math.MinInt), num(math.MinInt)},
		{Var(0), u}, {Var(3), vari(3)}, {Var(-1), vari(-1)}, {Var(1001), vari(1001)},
		{Max(num(1), u), greater(num(1), u)}, {Max(u, num(1)), greater(u, num(1))}, {Max(u, u), greater(u, u)},
		{Max(num(2), num(1)), greater(num(2), num(1))},
		{Plus(1, u), more(1, u)}, {Plus(3, num(2)), more(3, num(2))}, {Plus(2, greater(u, u)), more(2, greater(u, u))},
		{Plus(0, u), u}, {Plus(-1, u), u}, {Plus(math.MinInt, u), u}, {Plus(0, num(4)), num(4)}, {Plus(0, more(3, u)), more(3, u)},
		{Plus(-2, more(3, u)), more(3, u)}, {Plus(0, greater(u, num(1))), greater(u, num(1))},
		{Plus(2, more(3, u)), more(5, u)}, {Plus(1, more(3, greater(u, more(1, u)))), more(4, greater(u, more(1, u)))},
		{Plus(1, greater(more(1, u), u)), more(1, greater(more(1, u), u))},
	} {
		if !reflect.DeepEqual(c.got, c.want) {
			t.Errorf("%d: %v, not %v", i, c.got, c.want)
		}
	}
}

// TestP6_1Cut: both numbers of an LSucc of an LSucc, where they are great.
func TestP6_1Cut(t *testing.T) {
	u := vari(0)
	for i, c := range []struct {
		n, m, want int
	}{
		{top - 1, 1, top}, {top, 1, top}, {1, top, top}, {top, top, top}, {top - 2, 1, top - 1},
		{math.MaxInt, 1, top}, {math.MaxInt, math.MaxInt, top}, {1, math.MaxInt, top}, {math.MaxInt, top, top},
		{3, -5, -2}, {1, math.MinInt, math.MinInt + 1}, {math.MaxInt, math.MinInt, -1}, {4, 0, 4},
	} {
		if got := Plus(c.n, more(c.m, u)); !reflect.DeepEqual(got, more(c.want, u)) {
			t.Errorf("%d: Plus(%d, %d more) is %v", i, c.n, c.m, got)
		}
	}
	if got := Plus(math.MaxInt, u); !reflect.DeepEqual(got, more(math.MaxInt, u)) {
		t.Errorf("a number that is handed in, of no sum, is %v", got)
	}
}

// TestP6_1Fields: what a kind gives no meaning is zero in answers (R6), and
// what makes a level one that is not sound stays.
func TestP6_1Fields(t *testing.T) {
	u := vari(0)
	odd := api.Level{Kind: api.LMax, N: 9, Kids: []api.Level{u, num(1)}}
	none := api.Level{Kind: 8, N: 9, Kids: []api.Level{u}}
	for i, c := range []struct{ got, want api.Level }{
		{Plus(0, odd), greater(u, num(1))}, {Plus(2, odd), more(2, greater(u, num(1)))}, {Max(odd, u), greater(greater(u, num(1)), u)},
		{Plus(0, none), api.Level{Kind: 8}}, {Max(u, none), greater(u, api.Level{Kind: 8})},
	} {
		if !reflect.DeepEqual(c.got, c.want) {
			t.Errorf("%d: %v, not %v", i, c.got, c.want)
		}
	}
	for name, l := range unsound() {
		if Equal(Max(l, u), Max(l, u)) || Equal(Max(u, l), Max(u, l)) || Equal(Plus(0, l), Plus(0, l)) {
			t.Error(name, "became sound")
		}
	}
	if !Equal(odd, greater(u, num(1))) || May(odd, 1) != api.OK || Value(odd, []int{5}) != 5 || norm(odd) != "1 [0]" {
		t.Error("a field without meaning was looked at")
	}
}

func TestP6_1May(t *testing.T) {
	kid := []api.Level{num(0)}
	two := []api.Level{num(0), num(0)}
	wide := func(n int) api.Level { return balanced(0, n, func(int) api.Level { return vari(0) }) }
	for i, c := range []struct {
		l    api.Level
		vars int
		want api.Errno
	}{
		{num(0), 0, api.OK}, {num(1048576), 0, api.OK}, {num(1048577), 0, api.ErrArg}, {num(-1), 0, api.ErrArg},
		{num(math.MaxInt), 0, api.ErrArg}, {num(math.MinInt), 0, api.ErrArg}, {api.Level{Kind: api.LNum, Kids: kid}, 0, api.ErrArg},
		{more(1, num(0)), 0, api.OK}, {more(1048576, num(0)), 0, api.OK}, {more(1048577, num(0)), 0, api.ErrArg},
		{more(0, num(0)), 0, api.ErrArg}, {more(-1, num(0)), 0, api.ErrArg}, {more(math.MinInt, num(0)), 0, api.ErrArg},
		{api.Level{Kind: api.LSucc, N: 1}, 0, api.ErrArg}, {api.Level{Kind: api.LSucc, N: 1, Kids: two}, 0, api.ErrArg},
		{greater(num(0), num(0)), 0, api.OK}, {api.Level{Kind: api.LMax}, 0, api.ErrArg}, {api.Level{Kind: api.LMax, Kids: kid}, 0, api.ErrArg},
		{api.Level{Kind: api.LMax, Kids: append(two, num(0))}, 0, api.ErrArg},
		{vari(0), 1, api.OK}, {vari(0), 0, api.ErrLevels}, {vari(5), 6, api.OK}, {vari(6), 6, api.ErrLevels}, {vari(-1), 6, api.ErrLevels},
		{vari(0), -1, api.ErrLevels}, {vari(-1), -1, api.ErrLevels}, {vari(0), math.MinInt, api.ErrLevels}, {vari(math.MinInt), math.MinInt, api.ErrLevels},
		{vari(math.MaxInt), math.MinInt, api.ErrLevels}, {vari(math.MaxInt - 1), math.MaxInt, api.OK}, {vari(math.MaxInt), math.MaxInt, api.ErrLevels},
		{api.Level{Kind: api.LVar, Kids: kid}, 1, api.ErrArg}, {api.Level{Kind: api.LVar, N: 9, Kids: kid}, 1, api.ErrArg},
		{api.Level{}, 0, api.ErrArg}, {api.Level{Kind: 5}, 0, api.ErrArg}, {api.Level{Kind: -1}, 0, api.ErrArg}, {api.Level{Kind: 9, Kids: kid}, 9, api.ErrArg},
		{nested(32, vari(0)), 1, api.OK}, {nested(33, vari(0)), 1, api.ErrLong}, {nested(32, vari(0)), 0, api.ErrLevels}, {nested(33, vari(0)), 0, api.ErrLong},
		{nested(33, api.Level{}), 0, api.ErrLong}, {nested(32, api.Level{}), 0, api.ErrArg}, {nested(300, num(0)), 0, api.ErrLong},
		{wide(50), 1, api.OK}, {more(1, wide(50)), 1, api.OK}, {more(1, more(1, wide(50))), 1, api.ErrLong}, {wide(51), 1, api.ErrLong}, {wide(800), 1, api.ErrLong},
		{endless(api.LSucc), 1, api.ErrLong}, {endless(api.LMax), 1, api.ErrLong}, {doubled(90, num(1)), 1, api.ErrLong}, {doubled(30, num(1)), 1, api.ErrLong},
	} {
		if got := May(c.l, c.vars); got != c.want {
			t.Errorf("%d: %d, not %d", i, got, c.want)
		}
	}
}

// TestP6_1MayFirst: of several errors the one that is met first, from the left,
// a node ahead of its kids.
func TestP6_1MayFirst(t *testing.T) {
	bad, far := api.Level{}, vari(9)
	wide := func(last api.Level) api.Level {
		return balanced(0, 51, func(i int) api.Level {
			if i == 50 {
				return last
			}
			return num(0)
		})
	}
	for i, c := range []struct {
		l    api.Level
		want api.Errno
	}{
		{greater(bad, far), api.ErrArg}, {greater(far, bad), api.ErrLevels}, {greater(nested(40, far), bad), api.ErrLong}, {greater(bad, nested(40, far)), api.ErrArg},
		{more(0, far), api.ErrArg}, {more(1, far), api.ErrLevels}, {api.Level{Kind: api.LMax, Kids: []api.Level{far}}, api.ErrArg},
		{greater(greater(num(1), far), bad), api.ErrLevels}, {greater(greater(num(1), bad), far), api.ErrArg},
		{wide(far), api.ErrLong}, {wide(bad), api.ErrLong}, {greater(far, wide(bad)), api.ErrLevels}, {greater(wide(num(0)), bad), api.ErrLong},
		{greater(more(1, num(0)), more(2000000, far)), api.ErrArg},
	} {
		if got := May(c.l, 2); got != c.want {
			t.Errorf("%d: %d, not %d", i, got, c.want)
		}
	}
	// The 100th node is looked at, the 101st is not.
	hundred := more(1, balanced(0, 50, func(i int) api.Level {
		if i == 49 {
			return far
		}
		return num(0)
	}))
	if got := May(hundred, 2); got != api.ErrLevels {
		t.Error("the 100th node:", got)
	}
}

func TestP6_2Value(t *testing.T) {
	u, v := vari(0), vari(1)
	a := greater(num(3), greater(more(1, u), more(2, v)))
	for i, c := range []struct {
		l    api.Level
		vs   []int
		want int
	}{
		{num(0), nil, 0}, {num(7), []int{9}, 7}, {num(top), nil, top}, {u, nil, 0}, {u, []int{}, 0}, {u, []int{4}, 4}, {v, []int{4}, 0}, {v, []int{4, 6, 8}, 6},
		{vari(1000), nil, 0}, {vari(1000), append(make([]int, 1000), 5), 5}, {u, []int{-5}, 0}, {u, []int{math.MinInt}, 0}, {u, []int{top}, top}, {u, []int{top - 1}, top - 1},
		{u, []int{top + 1}, top}, {u, []int{math.MaxInt}, top}, {more(3, u), []int{-5}, 3}, {more(3, u), []int{5}, 8}, {more(3, more(4, u)), []int{5}, 12},
		{more(1, u), []int{math.MaxInt}, top}, {more(top, u), []int{0}, top}, {more(top, u), []int{1}, top}, {more(1, u), []int{top - 1}, top}, {more(1, u), []int{top - 2}, top - 1},
		{more(top, more(top, num(top))), nil, top}, {a, nil, 3}, {a, []int{5}, 6}, {a, []int{5, 9}, 11}, {a, []int{5, 4}, 6}, {a, []int{2, 1}, 3},
	} {
		if got := Value(c.l, c.vs); got != c.want {
			t.Errorf("%d: Value(%v, %v) is %d, not %d", i, c.l, c.vs, got, c.want)
		}
	}
	for name, l := range unsound() {
		if got := Value(l, []int{5, 5}); got != 0 {
			t.Errorf("%s: %d", name, got)
		}
	}
	r := rand.New(rand.NewSource(1))
	for range 500 {
		l, vs := random(r, 7, 4, 9), []int{r.Intn(9), r.Intn(9), r.Intn(9), r.Intn(9)}
		if got := Value(l, vs); got != meant(l, vs) {
			t.Fatalf("Value(%v, %v) is %d", l, vs, got)
		}
	}
}

// TestP6_2Bounds: the greatest levels that are sound.
func TestP6_2Bounds(t *testing.T) {
	thousand := more(1, balanced(0, 500, num))
	for i, c := range []struct {
		l    api.Level
		want int
	}{{nested(256, num(0)), 255}, {nested(256, num(top)), top}, {thousand, 500}, {balanced(0, 500, num), 499}, {num(top), top}, {more(top, num(0)), top}, {more(1, vari(1000)), 1}} {
		if got := Value(c.l, nil); got != c.want || !Equal(c.l, c.l) || !Leq(c.l, c.l) {
			t.Errorf("%d: %d, not %d; %v %v", i, got, c.want, Equal(c.l, c.l), Leq(c.l, c.l))
		}
	}
}

func TestP6_3Norm(t *testing.T) {
	u, v := vari(0), vari(1)
	for i, c := range []struct {
		l    api.Level
		want string
	}{
		{greater(num(3), more(1, u)), "3 [1]"}, {greater(num(1), more(1, v)), "0 [-1 1]"}, {num(0), "0 []"}, {num(7), "7 []"}, {u, "0 [0]"}, {v, "0 [-1 0]"}, {vari(3), "0 [-1 -1 -1 0]"},
		{greater(num(0), u), "0 [0]"}, {greater(num(1), u), "1 [0]"}, {greater(num(2), more(1, u)), "2 [1]"}, {greater(num(2), more(2, u)), "0 [2]"}, {greater(num(2), more(3, u)), "0 [3]"},
		{more(2, greater(u, num(1))), "3 [2]"}, {more(2, greater(u, num(0))), "0 [2]"}, {greater(u, more(3, u)), "0 [3]"}, {greater(more(3, u), u), "0 [3]"}, {more(1, more(2, v)), "0 [-1 3]"},
		{greater(vari(3), more(2, v)), "0 [-1 2 -1 0]"}, {greater(greater(num(4), u), more(4, vari(2))), "0 [0 -1 4]"}, {greater(greater(num(5), u), more(4, vari(2))), "5 [0 -1 4]"},
		{more(1, greater(num(3), greater(u, more(1, v)))), "4 [1 2]"}, {greater(num(3), num(5)), "5 []"}, {more(4, num(3)), "7 []"},
	} {
		if got := norm(c.l); got != c.want {
			t.Errorf("%d: Norm(%v) is %s, not %s", i, c.l, got, c.want)
		}
	}
	for name, l := range unsound() {
		if got := norm(l); got != "0 []" {
			t.Error(name, got)
		}
	}
}

// TestP6_3Cut: numbers that would be above 2^40.
func TestP6_3Cut(t *testing.T) {
	u := vari(0)
	for i, c := range []struct {
		l  api.Level
		c  int
		ks []int
	}{
		{more(top, num(5)), top, nil}, {more(top, u), 0, []int{top}}, {more(1, more(top, u)), 0, []int{top}}, {more(top, more(top, u)), 0, []int{top}}, {more(top-1, num(1)), top, nil},
		{more(top-2, num(1)), top - 1, nil}, {greater(num(top), u), top, []int{0}}, {more(5, greater(num(top), u)), top, []int{5}}, {more(top, greater(num(5), u)), 0, []int{top}},
		{more(top-1, greater(num(1), u)), top, []int{top - 1}}, {more(top-1, greater(num(1), more(1, u))), 0, []int{top}},
	} {
		n, ks := Norm(c.l)
		if n != c.c || !slices.Equal(ks, c.ks) {
			t.Errorf("%d: Norm(%v) is %d %v", i, c.l, n, ks)
		}
	}
}

// TestP6_3Means: Norm of many levels is what their values say.
func TestP6_3Means(t *testing.T) {
	r := rand.New(rand.NewSource(2))
	list := small()
	for range 40 {
		list = append(list, random(r, 7, 4, 9), random(r, 5, 9, 3))
	}
	list = append(list, vari(1000), greater(vari(999), more(2, vari(7))), balanced(0, 40, vari))
	for _, l := range list {
		c, ks := probed(l)
		if got, want := norm(l), fmt.Sprint(c, ks); got != want {
			t.Fatalf("Norm(%v) is %s, not %s", l, got, want)
		}
	}
}

func TestP6_4Reduce(t *testing.T) {
	u, v, w := vari(0), vari(1), vari(2)
	for i, c := range []struct{ l, want api.Level }{
		{num(0), num(0)}, {num(7), num(7)}, {more(3, num(4)), num(7)}, {greater(num(3), num(4)), num(4)}, {u, u}, {v, v}, {more(2, u), more(2, u)}, {more(2, more(3, u)), more(5, u)},
		{greater(u, u), u}, {greater(u, more(1, u)), more(1, u)}, {greater(num(0), u), u}, {greater(u, num(1)), greater(num(1), u)}, {greater(num(1), more(1, u)), more(1, u)},
		{greater(v, u), greater(u, v)}, {greater(w, greater(v, u)), greater(greater(u, v), w)}, {greater(w, num(3)), greater(num(3), w)},
		{greater(num(3), greater(more(1, u), more(2, v))), greater(greater(num(3), more(1, u)), more(2, v))},
		{more(1, greater(greater(w, num(4)), greater(v, u))), greater(greater(greater(num(5), more(1, u)), more(1, v)), more(1, w))},
		{more(top, num(1)), num(top)}, {more(top, more(1, u)), more(top, u)}, {api.Level{Kind: api.LMax, N: 9, Kids: []api.Level{u, v}}, greater(u, v)},
	} {
		if got := Reduce(c.l); !reflect.DeepEqual(got, c.want) {
			t.Errorf("%d: Reduce(%v) is %v, not %v", i, c.l, got, c.want)
		}
	}
	for name, l := range unsound() {
		if got := Reduce(l); !reflect.DeepEqual(got, api.Level{}) {
			t.Error(name, got)
		}
	}
}

// TestP6_4Long: of many variables all are told, though what comes about is
// itself too deep to be sound.
func TestP6_4Long(t *testing.T) {
	l := Reduce(more(1, balanced(0, 500, vari)))
	for i := 499; i > 0; i-- {
		if l.Kind != api.LMax || !reflect.DeepEqual(l.Kids[1], more(1, vari(i))) {
			t.Fatal(i, l.Kind)
		}
		l = l.Kids[0]
	}
	if !reflect.DeepEqual(l, more(1, vari(0))) {
		t.Error(l)
	}
}

// TestP6_4Again: what Reduce tells has the same norm, and is reduced.
func TestP6_4Again(t *testing.T) {
	r := rand.New(rand.NewSource(3))
	for range 500 {
		l := random(r, 7, 5, 9)
		got := Reduce(l)
		if norm(got) != norm(l) || !reflect.DeepEqual(Reduce(got), got) {
			t.Fatalf("Reduce(%v) is %v", l, got)
		}
	}
}

// TestP6_5Order: Equal and Leq hold just if the values say so, at all points of
// a grid that is wide enough for these small numbers.
func TestP6_5Order(t *testing.T) {
	list := small()
	values := make([][]int, len(list))
	for i, l := range list {
		for x := range 9 {
			for y := range 9 {
				vs := make([]int, 1001)
				vs[0], vs[1] = 2*x, 2*y
				values[i] = append(values[i], meant(l, vs))
			}
		}
	}
	for i, a := range list {
		for j, b := range list {
			leq := true
			for p := range values[i] {
				leq = leq && values[i][p] <= values[j][p]
			}
			if got := Leq(a, b); got != leq {
				t.Fatalf("Leq(%v, %v) is %v", a, b, got)
			}
			if got, want := Equal(a, b), slices.Equal(values[i], values[j]); got != want {
				t.Fatalf("Equal(%v, %v) is %v", a, b, got)
			}
		}
	}
}

func TestP6_5Cases(t *testing.T) {
	u, v := vari(0), vari(1)
	for i, c := range []struct {
		a, b       api.Level
		leq, equal bool
	}{
		{num(0), u, true, false}, {num(1), u, false, false}, {u, num(top), false, false}, {u, num(5), false, false}, {u, v, false, false}, {u, more(1, u), true, false}, {more(1, u), u, false, false},
		{num(1), more(1, u), true, false}, {num(2), more(1, u), false, false}, {u, greater(u, v), true, false}, {greater(u, v), greater(v, u), true, true}, {greater(u, v), u, false, false},
		{more(1, greater(u, v)), greater(more(1, v), more(1, u)), true, true}, {greater(num(1), more(1, u)), more(1, u), true, true}, {greater(num(2), more(1, u)), more(1, u), false, false},
		{more(2, num(3)), num(5), true, true}, {more(top, num(5)), num(top), true, true}, {more(1, more(top, u)), more(top, u), true, true}, {more(top, u), more(top, v), false, false},
		{more(top, u), num(top), false, false}, {num(top), more(top, u), true, false}, {vari(1000), vari(1000), true, true}, {vari(1000), vari(999), false, false},
	} {
		if Leq(c.a, c.b) != c.leq || Equal(c.a, c.b) != c.equal || Equal(c.b, c.a) != c.equal {
			t.Errorf("%d: %v and %v: %v %v", i, c.a, c.b, Leq(c.a, c.b), Equal(c.a, c.b))
		}
	}
	for name, l := range unsound() {
		if Equal(l, l) || Equal(l, u) || Equal(u, l) || Leq(l, l) || Leq(l, u) || Leq(u, l) || Leq(num(0), l) || Equal(l, num(0)) {
			t.Error(name)
		}
	}
}

// TestP6_5Great: levels that are sound each, but would not be together.
func TestP6_5Great(t *testing.T) {
	deep, wide := nested(256, vari(3)), more(1, balanced(0, 500, func(i int) api.Level { return vari(i % 7) }))
	if !Leq(deep, deep) || !Leq(wide, wide) || !Leq(vari(3), deep) || !Leq(vari(3), wide) || Leq(deep, wide) || Leq(wide, deep) || Leq(deep, vari(3)) {
		t.Error("Leq")
	}
	if got := Inst(nested(256, vari(0)), []api.Level{nested(256, vari(0))}); !reflect.DeepEqual(got, more(510, vari(0))) {
		t.Error("too deep together:", got)
	}
	many := make([]api.Level, 7)
	for i := range many {
		many[i] = more(1, balanced(0, 500, func(j int) api.Level { return vari(j % 2) }))
	}
	if got := Inst(wide, many); !reflect.DeepEqual(got, greater(more(2, vari(0)), more(2, vari(1)))) {
		t.Error("too wide together:", got)
	}
}

func TestP6_5Inst(t *testing.T) {
	u, v, w := vari(0), vari(1), vari(2)
	bad := api.Level{Kind: 9}
	for i, c := range []struct {
		l    api.Level
		vs   []api.Level
		want api.Level
	}{
		{u, nil, u}, {v, []api.Level{num(4)}, v}, {u, []api.Level{num(4)}, num(4)}, {u, []api.Level{v}, v}, {more(1, u), []api.Level{more(2, vari(3))}, more(3, vari(3))},
		{greater(u, more(1, v)), []api.Level{num(4)}, greater(num(4), more(1, v))}, {greater(u, v), []api.Level{v, u}, greater(u, v)}, {greater(u, more(1, v)), []api.Level{v, u}, greater(more(1, u), v)},
		{more(1, greater(num(2), u)), []api.Level{num(0)}, num(3)}, {greater(num(3), more(5, u)), []api.Level{num(0)}, num(5)}, {greater(num(3), more(5, u)), []api.Level{w}, more(5, w)},
		{greater(num(3), u), []api.Level{num(2)}, num(3)}, {greater(num(3), u), []api.Level{num(4)}, num(4)}, {greater(u, v), []api.Level{w, w}, w}, {num(3), []api.Level{bad}, num(3)},
		{more(1, u), []api.Level{u, bad}, more(1, u)}, {v, []api.Level{bad, u}, u}, {u, []api.Level{bad}, api.Level{}}, {greater(u, v), []api.Level{num(1), bad}, api.Level{}},
		{greater(num(9), u), []api.Level{bad}, api.Level{}}, {more(top, u), []api.Level{more(3, v)}, more(top, v)}, {more(top, u), []api.Level{num(3)}, num(top)}, {num(7), nil, num(7)},
		{vari(1000), []api.Level{num(1)}, vari(1000)}, {greater(v, greater(u, v)), nil, greater(u, v)},
		{more(1, u), []api.Level{greater(num(1), more(1, v))}, more(2, v)}, {more(1, u), []api.Level{greater(num(2), more(1, v))}, greater(num(3), more(2, v))},
	} {
		if got := Inst(c.l, c.vs); !reflect.DeepEqual(got, c.want) {
			t.Errorf("%d: Inst(%v, %v) is %v, not %v", i, c.l, c.vs, got, c.want)
		}
	}
	long := make([]api.Level, 2000)
	for name, l := range unsound() {
		if got := Inst(l, nil); !reflect.DeepEqual(got, api.Level{}) {
			t.Error(name, got)
		}
		for i := range long {
			long[i] = num(1)
		}
		if got := Inst(l, long); !reflect.DeepEqual(got, api.Level{}) {
			t.Error(name, "with all in their places", got)
		}
		if got := Inst(greater(num(top), more(1, v)), []api.Level{u, l}); !reflect.DeepEqual(got, api.Level{}) {
			t.Error(name, "in a place", got)
		}
	}
}

// TestP6_5InstMeans: Inst of many levels is Reduce of what stands there when
// all are in their places.
func TestP6_5InstMeans(t *testing.T) {
	r := rand.New(rand.NewSource(4))
	for range 1000 {
		l := random(r, 5, 4, 9)
		var vs []api.Level
		for range r.Intn(6) {
			vs = append(vs, random(r, 4, 6, 9))
		}
		if got, want := Inst(l, vs), Reduce(put(l, vs)); !reflect.DeepEqual(got, want) {
			t.Fatalf("Inst(%v, %v) is %v, not %v", l, vs, got, want)
		}
	}
}

// TestP6_6Laws: of levels that are as near to each other as small ones are,
// and of some at the cut.
func TestP6_6Laws(t *testing.T) {
	u := vari(0)
	list := append(small()[:70], more(top, u), more(1, more(top, u)), num(top), greater(num(top), u), more(top-1, greater(u, num(1))), more(top, num(1)))
	for _, a := range list {
		for _, b := range list {
			same := norm(a) == norm(b)
			if Equal(a, b) != same || reflect.DeepEqual(Reduce(a), Reduce(b)) != same || (Leq(a, b) && Leq(b, a)) != same {
				t.Fatalf("%v and %v: Norm says %v", a, b, same)
			}
			both := greater(a, b)
			if !Leq(a, both) || !Leq(b, both) {
				t.Fatalf("%v or %v is not at most their greater one", a, b)
			}
			for _, c := range list {
				if Leq(a, b) && Leq(b, c) && !Leq(a, c) {
					t.Fatalf("Leq does not go on: %v, %v, %v", a, b, c)
				}
				if (Leq(a, c) && Leq(b, c)) != Leq(both, c) {
					t.Fatalf("%v is not the least above both: %v", both, c)
				}
			}
		}
	}
}

// TestR2In: what is handed in is not changed, and what lies behind a list's
// length neither read nor written.
func TestR2In(t *testing.T) {
	r := rand.New(rand.NewSource(5))
	for range 100 {
		a, b := random(r, 5, 4, 9), random(r, 5, 4, 9)
		room := []api.Level{copied2(a), copied2(b), {Kind: -3, N: -3}}
		wantA, wantB := copied2(a), copied2(b)
		vs, ints := room[:2], []int{1, 2, -9}
		Plus(2, a)
		Plus(0, a)
		Max(a, b)
		May(a, 4)
		Norm(a)
		Reduce(a)
		Equal(a, b)
		Leq(a, b)
		got := Inst(more(1, greater(vari(2), vari(1))), vs)
		Value(a, ints[:2])
		if !reflect.DeepEqual(a, wantA) || !reflect.DeepEqual(b, wantB) || !reflect.DeepEqual(room, []api.Level{wantA, wantB, {Kind: -3, N: -3}}) || !slices.Equal(ints, []int{1, 2, -9}) {
			t.Fatal("something that was handed in is another")
		}
		if got.Kind == 0 || Value(vari(2), ints[:2]) != 0 {
			t.Fatal("read behind a list's length")
		}
	}
}

// TestR2Out: an answer shares no memory with what was handed in, nor do two
// parts of one answer with one another.
func TestR2Out(t *testing.T) {
	fresh := func() api.Level { return greater(more(2, vari(0)), greater(num(5), more(1, vari(1)))) }
	for name, call := range map[string]func(api.Level) api.Level{
		"Plus 0":   func(l api.Level) api.Level { return Plus(0, l) },
		"Plus 1":   func(l api.Level) api.Level { return Plus(1, l) },
		"Plus one": func(l api.Level) api.Level { return Plus(1, l.Kids[0]) },
		"Max":      func(l api.Level) api.Level { return Max(l, l) },
		"Reduce":   Reduce,
		"Inst":     func(l api.Level) api.Level { return Inst(l, []api.Level{l, l}) },
		"Inst of":  func(l api.Level) api.Level { return Inst(l, nil) },
	} {
		in := fresh()
		out := call(in)
		want := copied2(out)
		scribble(in)
		if !reflect.DeepEqual(out, want) {
			t.Error(name, "keeps what was handed in")
		}
		in = fresh()
		scribble(call(in))
		if !reflect.DeepEqual(in, fresh()) || !reflect.DeepEqual(call(in), want) {
			t.Error(name, "tells what was handed in, or what it keeps")
		}
	}
	twin := fresh()
	both := Max(twin, twin)
	scribble(both.Kids[0])
	if !reflect.DeepEqual(both.Kids[1], fresh()) {
		t.Error("two parts of one answer share memory")
	}
	_, ks := Norm(twin)
	ks[0] = 99
	if norm(twin) != "5 [2 1]" {
		t.Error("Norm keeps what it told")
	}
}

// TestR3Ends: levels without an end, or with too many nodes ever to be gone
// over, are borne by all calls.
func TestR3Ends(t *testing.T) {
	for name, l := range map[string]api.Level{"more": endless(api.LSucc), "greater": endless(api.LMax), "no kind": endless(7), "leaves": doubled(200, vari(0)), "long": {Kind: api.LMax, Kids: make([]api.Level, 1<<16)}} {
		a, b, c := Plus(3, l), Plus(0, l), Max(l, num(1))
		if c.Kind != api.LMax || len(c.Kids) != 2 || c.Kids[0].Kind != l.Kind || b.Kind != l.Kind || a.Kind != api.LSucc {
			t.Error(name, a.Kind, b.Kind, c.Kind)
		}
		if Equal(a, a) || Leq(b, c) || Value(c, nil) != 0 || norm(a) != "0 []" || Reduce(c).Kind != 0 || Inst(b, []api.Level{l}).Kind != 0 || Inst(vari(0), []api.Level{l}).Kind != 0 || May(c, 1) == api.OK {
			t.Error(name, "is taken as sound")
		}
	}
}
