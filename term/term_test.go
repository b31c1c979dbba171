package term

import (
	"fmt"
	"math"
	"math/rand"
	"reflect"
	"slices"
	"strings"
	"testing"

	"assize/api"
	"assize/level"
)

// The terms of these tests are written out as data, so that no call that is
// tested stands on another one.
func vari(n int) api.Term { return api.Term{Kind: api.TVar, N: n} }
func cons(name string, ls ...api.Level) api.Term {
	return api.Term{Kind: api.TConst, Name: name, Levels: ls}
}
func sort(l api.Level) api.Term { return api.Term{Kind: api.TSort, Level: l} }
func pi(a, b api.Term) api.Term { return node(api.TPi, a, b) }
func lam(a, b api.Term) api.Term {
	return node(api.TLam, a, b)
}
func let(a, v, b api.Term) api.Term { return node(api.TLet, a, v, b) }
func app(f, a api.Term) api.Term    { return node(api.TApp, f, a) }
func node(kind int, kids ...api.Term) api.Term {
	return api.Term{Kind: kind, Kids: kids}
}
func num(n int) api.Level { return api.Level{Kind: api.LNum, N: n} }
func lvar(i int) api.Level {
	return api.Level{Kind: api.LVar, N: i}
}
func lmax(a, b api.Level) api.Level {
	return api.Level{Kind: api.LMax, Kids: []api.Level{a, b}}
}
func lsucc(n int, l api.Level) api.Level {
	return api.Level{Kind: api.LSucc, N: n, Kids: []api.Level{l}}
}

// free tells a variable that is bound by nothing.
func free(i, _ int) string { return fmt.Sprint("f", i) }

// show tells t, which stands beneath depth binders, by names: each binder is
// named by how many there are around it, and look names what comes from
// outside. So it knows of no lifting.
func show(t api.Term, depth int, look func(i, depth int) string) string {
	under := func(k api.Term) string {
		return show(k, depth+1, func(i, d int) string {
			if i == 0 {
				return fmt.Sprint("b", depth)
			}
			return look(i-1, d)
		})
	}
	out := func(k api.Term) string { return show(k, depth, look) }
	has := map[int]int{api.TPi: 2, api.TLam: 2, api.TApp: 2, api.TLet: 3}[t.Kind]
	switch {
	case t.Kind < 1 || t.Kind > 7 || len(t.Kids) < has:
		return fmt.Sprint("bare", t.Kind)
	case t.Kind == api.TVar && t.N < 0:
		return fmt.Sprint("below", t.N)
	case t.Kind == api.TVar:
		return look(t.N, depth)
	case t.Kind == api.TSort:
		return "sort" + showLevel(t.Level)
	case t.Kind == api.TConst:
		s := t.Name
		for _, l := range t.Levels {
			s += "@" + showLevel(l)
		}
		return s
	case t.Kind == api.TApp:
		return "(" + out(t.Kids[0]) + " " + out(t.Kids[1]) + ")"
	case t.Kind == api.TLet:
		return "(let " + out(t.Kids[0]) + " " + out(t.Kids[1]) + " " + under(t.Kids[2]) + ")"
	}
	return fmt.Sprint("(", t.Kind, " ", out(t.Kids[0]), " ", under(t.Kids[1]), ")")
}

func showLevel(l api.Level) string {
	s := fmt.Sprint("[", l.Kind, " ", l.N)
	for _, k := range l.Kids {
		s += showLevel(k)
	}
	return s + "]"
}

func named(t api.Term) string { return show(t, 0, free) }

// some tells a term by chance, at most deep deep: with terms that lack kids,
// or are of no kind, where odd says so.
func some(r *rand.Rand, deep int, odd bool) api.Term {
	kid := func() api.Term { return some(r, deep-1, odd) }
	if odd && r.Intn(10) == 0 {
		return []api.Term{{Kind: api.TPi, N: 3}, {Kind: api.TLet, Kids: []api.Term{vari(0), vari(0)}}, {Kind: 9, N: 4, Name: "x"}, {}, {Kind: -1, Kids: []api.Term{vari(0)}}, vari(-2), {Kind: api.TApp, Kids: []api.Term{vari(0)}}}[r.Intn(7)]
	}
	if deep <= 1 || r.Intn(5) == 0 {
		switch r.Intn(6) {
		case 0:
			return sort(someLevel(r, 3))
		case 1:
			return cons([]string{"a", "b.c", "c_9"}[r.Intn(3)], someLevels(r, r.Intn(3))...)
		}
		return vari(r.Intn(5))
	}
	var out api.Term
	switch r.Intn(5) {
	case 0:
		out = pi(kid(), kid())
	case 1:
		out = lam(kid(), kid())
	case 2:
		out = let(kid(), kid(), kid())
	default:
		out = app(kid(), kid())
	}
	if odd && r.Intn(4) == 0 {
		out.Kids = append(out.Kids, vari(7), cons("behind"))
		out.N, out.Name, out.Level, out.Levels = 5, "z", num(1), []api.Level{num(2)}
	}
	return out
}

func someLevel(r *rand.Rand, deep int) api.Level {
	switch n := r.Intn(4); {
	case deep <= 1 && n < 2 || n == 0:
		return num(r.Intn(4))
	case deep <= 1 || n == 1:
		return lvar(r.Intn(3))
	case n == 2:
		return lsucc(1+r.Intn(3), someLevel(r, deep-1))
	}
	return lmax(someLevel(r, deep-1), someLevel(r, deep-1))
}

func someLevels(r *rand.Rand, n int) []api.Level {
	var out []api.Level
	for range n {
		out = append(out, someLevel(r, 3))
	}
	return out
}

// plain tells t without what its kinds give no meaning, as data.
func plain(t api.Term) api.Term {
	out := api.Term{Kind: t.Kind}
	n := map[int]int{api.TPi: 2, api.TLam: 2, api.TApp: 2, api.TLet: 3}[t.Kind]
	switch {
	case t.Kind == api.TVar:
		out.N = t.N
	case t.Kind == api.TSort:
		out.Level = plainLevel(t.Level)
	case t.Kind == api.TConst:
		out.Name = t.Name
		for _, l := range t.Levels {
			out.Levels = append(out.Levels, plainLevel(l))
		}
	case len(t.Kids) >= n:
		for _, k := range t.Kids[:n] {
			out.Kids = append(out.Kids, plain(k))
		}
	}
	return out
}

func plainLevel(l api.Level) api.Level {
	out := api.Level{Kind: l.Kind, N: l.N}
	if l.Kind < 1 || l.Kind > 4 {
		return api.Level{Kind: l.Kind}
	}
	if l.Kind == api.LMax {
		out.N = 0
	}
	for _, k := range l.Kids {
		out.Kids = append(out.Kids, plainLevel(k))
	}
	return out
}

// list tells t's nodes, each ahead of its kids, with their depths.
func list(t api.Term) (all []api.Term, depths []int) {
	var go1 func(t api.Term, depth int)
	go1 = func(t api.Term, depth int) {
		all, depths = append(all, t), append(depths, depth)
		for _, k := range t.Kids {
			go1(k, depth+1)
		}
	}
	go1(t, 1)
	return all, depths
}

// chainOf is a term of depth n: a binder in a binder, .. around last.
func chainOf(n int, last api.Term) api.Term {
	for range n - 1 {
		last = lam(cons("a"), last)
	}
	return last
}

// balanced has n leaves, so 2n - 1 nodes, at a small depth.
func balanced(n int, leaf api.Term) api.Term {
	if n == 1 {
		return leaf
	}
	return app(balanced(n/2, leaf), balanced(n-n/2, leaf))
}

// doubled has 2 ** n leaves, which share memory.
func doubled(n int, t api.Term) api.Term {
	for range n {
		t = app(t, t)
	}
	return t
}

// ofSize has so many nodes.
func ofSize(n int, leaf api.Term) api.Term {
	if n%2 == 1 {
		return balanced((n+1)/2, leaf)
	}
	return let(cons("a"), cons("a"), balanced((n-2)/2, leaf))
}

func is(t *testing.T, what string, got, want api.Term) {
	t.Helper()
	if !reflect.DeepEqual(got, want) {
		t.Fatalf("%s: got %+v, want %+v", what, got, want)
	}
}

func TestP7_1MakesTerms(t *testing.T) {
	a, b, c := cons("a", num(1)), app(vari(0), vari(4)), sort(lmax(lvar(0), num(2)))
	is(t, "Var", Var(7), api.Term{Kind: 1, N: 7})
	is(t, "Var below 0", Var(-7), api.Term{Kind: 1, N: -7})
	is(t, "Sort", Sort(lsucc(2, lvar(1))), api.Term{Kind: 2, Level: lsucc(2, lvar(1))})
	is(t, "Pi", Pi(a, b), api.Term{Kind: 3, Kids: []api.Term{a, b}})
	is(t, "Lam", Lam(b, c), api.Term{Kind: 4, Kids: []api.Term{b, c}})
	is(t, "Let", Let(a, b, c), api.Term{Kind: 5, Kids: []api.Term{a, b, c}})
	is(t, "Const", Const("n.m"), api.Term{Kind: 7, Name: "n.m"})
	is(t, "Const of no name that may be", Const("N", num(1), lvar(0)), api.Term{Kind: 7, Name: "N", Levels: []api.Level{num(1), lvar(0)}})
	is(t, "Apps of none", Apps(b), b)
	is(t, "Apps", Apps(a, b, c, a), app(app(app(a, b), c), a))
	is(t, "Apps of an application", Apps(app(a, b), c), app(app(a, b), c))
}

func TestP7_1Spine(t *testing.T) {
	bare := api.Term{Kind: api.TApp, Kids: []api.Term{cons("a")}}
	for i, x := range []struct {
		t, head api.Term
		args    []api.Term
	}{
		{vari(3), vari(3), nil},
		{app(cons("f"), vari(1)), cons("f"), []api.Term{vari(1)}},
		{app(app(app(cons("f"), vari(1)), app(vari(2), vari(3))), vari(4)), cons("f"), []api.Term{vari(1), app(vari(2), vari(3)), vari(4)}},
		{app(lam(cons("a"), app(vari(0), vari(1))), vari(4)), lam(cons("a"), app(vari(0), vari(1))), []api.Term{vari(4)}},
		{lam(cons("a"), app(vari(0), vari(1))), lam(cons("a"), app(vari(0), vari(1))), nil},
		{bare, api.Term{Kind: api.TApp}, nil},
		{app(bare, vari(1)), api.Term{Kind: api.TApp}, []api.Term{vari(1)}},
		{node(api.TApp, cons("f"), vari(1), vari(2)), cons("f"), []api.Term{vari(1)}},
		{api.Term{Kind: 12, N: 3}, api.Term{Kind: 12}, nil},
	} {
		head, args := Spine(x.t)
		if !reflect.DeepEqual(head, x.head) || len(args) != len(x.args) {
			t.Fatal(i, head, args)
		}
		for j := range args {
			is(t, fmt.Sprint(i, j), args[j], x.args[j])
		}
	}
}

func TestP7_1SpineAndAppsGoBothWays(t *testing.T) {
	r := rand.New(rand.NewSource(1))
	for range 2000 {
		x := some(r, 6, true)
		head, args := Spine(x)
		is(t, "Apps of Spine", Apps(head, args...), plain(x))
	}
}

func TestP7_1Name(t *testing.T) {
	const letters, others = "abcdefghijklmnopqrstuvwxyz", "0123456789_."
	for c := range 256 {
		s := string([]byte{byte(c)})
		if Name(s) != strings.Contains(letters, s) {
			t.Error("first", c)
		}
		for _, x := range []string{"a" + s, "z" + s + "9", "a" + strings.Repeat("b", 30) + s} {
			if Name(x) != strings.Contains(letters+others, s) {
				t.Error("behind", c)
			}
		}
	}
	for n := range 70 {
		if Name(strings.Repeat("a", n)) != (n >= 1 && n <= 32) {
			t.Error(n)
		}
	}
}

func TestP7_2May(t *testing.T) {
	long := lsucc(1, num(0))
	for range 31 {
		long = lsucc(1, long)
	}
	seven := make([]api.Level, 7)
	for i := range seven {
		seven[i] = num(1)
	}
	for i, x := range []struct {
		t    api.Term
		vars int
		want api.Errno
	}{
		{chainOf(64, cons("a")), 0, api.OK},
		{chainOf(65, cons("a")), 0, api.ErrLong},
		{chainOf(65, cons("A")), 0, api.ErrLong},
		{ofSize(399, vari(0)), 0, api.OK},
		{ofSize(400, vari(0)), 0, api.OK},
		{ofSize(401, vari(0)), 0, api.ErrLong},
		{app(balanced(200, vari(0)), api.Term{}), 0, api.ErrLong},
		{app(balanced(199, vari(0)), api.Term{}), 0, api.ErrArg},
		{app(api.Term{}, balanced(200, vari(0))), 0, api.ErrArg},
		{vari(0), 0, api.OK}, {vari(-1), 0, api.ErrArg}, {vari(math.MinInt), 0, api.ErrArg},
		{vari(1048576), 0, api.OK}, {vari(1048577), 0, api.ErrArg}, {vari(math.MaxInt), 0, api.ErrArg},
		{api.Term{}, 0, api.ErrArg}, {api.Term{Kind: 8}, 0, api.ErrArg}, {api.Term{Kind: -1}, 0, api.ErrArg},
		{node(api.TVar, vari(0)), 0, api.ErrArg}, {node(api.TSort, vari(0)), 0, api.ErrArg},
		{api.Term{Kind: api.TConst, Name: "a", Kids: []api.Term{vari(0)}}, 0, api.ErrArg},
		{api.Term{Kind: api.TConst, Name: "A", Kids: []api.Term{vari(0)}}, 0, api.ErrArg},
		{node(api.TPi, vari(0)), 0, api.ErrArg}, {node(api.TPi), 0, api.ErrArg},
		{node(api.TPi, vari(0), vari(0), vari(0)), 0, api.ErrArg},
		{node(api.TLam, vari(0), vari(0), vari(0)), 0, api.ErrArg}, {node(api.TLam, vari(0)), 0, api.ErrArg},
		{node(api.TApp, vari(0), vari(0), vari(0)), 0, api.ErrArg}, {node(api.TApp, cons("A")), 0, api.ErrArg},
		{let(vari(0), vari(0), vari(0)), 0, api.OK}, {node(api.TLet, vari(0), vari(0)), 0, api.ErrArg},
		{node(api.TLet, vari(0), vari(0), vari(0), vari(0)), 0, api.ErrArg},
		{sort(lvar(1)), 2, api.OK}, {sort(lvar(1)), 1, api.ErrLevels}, {sort(lvar(0)), -3, api.ErrLevels},
		{sort(num(-1)), 0, api.ErrArg}, {sort(api.Level{}), 0, api.ErrArg}, {sort(long), 0, api.ErrLong},
		{cons("a"), 0, api.OK}, {cons(""), 0, api.ErrName}, {cons("A"), 0, api.ErrName},
		{cons("9", seven...), 0, api.ErrName}, {cons("a", seven...), 0, api.ErrLong}, {cons("a", seven[1:]...), 0, api.OK},
		{cons("a", append([]api.Level{lvar(9)}, seven...)...), 0, api.ErrLong},
		{cons("a", num(1), lvar(0), num(-1)), 0, api.ErrLevels}, {cons("a", num(1), num(-1), lvar(0)), 0, api.ErrArg},
		{cons("a", long), 0, api.ErrLong},
		{app(cons("A"), vari(-1)), 0, api.ErrName}, {app(vari(-1), cons("A")), 0, api.ErrArg},
		{let(vari(0), sort(lvar(0)), cons("A")), 0, api.ErrLevels}, {let(vari(0), vari(0), cons("A")), 0, api.ErrName},
		{api.Term{Kind: api.TVar, N: 1, Name: "A", Level: long, Levels: seven}, 0, api.OK},
		{api.Term{Kind: api.TSort, N: -1, Name: "A", Level: num(0), Levels: seven}, 0, api.OK},
		{api.Term{Kind: api.TConst, N: -1, Name: "a", Level: long}, 0, api.OK},
		{api.Term{Kind: api.TApp, N: -1, Name: "A", Level: long, Levels: seven, Kids: []api.Term{vari(0), vari(0)}}, 0, api.OK},
	} {
		if e := May(x.t, x.vars); e != x.want {
			t.Error(i, e, x.want)
		}
	}
}

// mayOf tells what May must, from the list of t's nodes.
func mayOf(t api.Term, vars int) api.Errno {
	all, depths := list(t)
	for i, n := range all {
		has, known := map[int]int{1: 0, 2: 0, 3: 2, 4: 2, 5: 3, 6: 2, 7: 0}[n.Kind]
		levels := n.Levels
		switch {
		case i >= 400 || depths[i] > 64:
			return api.ErrLong
		case !known || len(n.Kids) != has || n.Kind == 1 && (n.N < 0 || n.N > 1048576):
			return api.ErrArg
		case n.Kind == 2:
			levels = []api.Level{n.Level}
		case n.Kind != 7:
			continue
		case n.Name == "" || strings.ToLower(n.Name) != n.Name:
			return api.ErrName
		case len(levels) > 6:
			return api.ErrLong
		}
		for _, l := range levels {
			if e := level.May(l, vars); e != api.OK {
				return e
			}
		}
	}
	return api.OK
}

func TestP7_2MayByChance(t *testing.T) {
	r := rand.New(rand.NewSource(2))
	seen := map[api.Errno]int{}
	for i := range 20000 {
		x := some(r, 1+r.Intn(12), i%3 == 0)
		vars := r.Intn(5)
		e := May(x, vars)
		seen[e]++
		if want := mayOf(x, vars); e != want {
			t.Fatal(named(x), vars, e, want)
		}
	}
	for _, e := range []api.Errno{api.OK, api.ErrArg, api.ErrLong, api.ErrLevels} {
		if seen[e] < 50 {
			t.Error("seldom", e, seen[e])
		}
	}
}

func TestP7_3SizeDepth(t *testing.T) {
	for i, x := range []struct {
		t           api.Term
		size, depth int
	}{
		{vari(0), 1, 1}, {api.Term{}, 1, 1}, {cons("a"), 1, 1},
		{sort(lmax(num(1), num(2))), 1, 1}, {cons("a", num(1), lmax(num(0), num(1))), 1, 1},
		{node(api.TVar, vari(0)), 1, 1}, {node(api.TPi, vari(0)), 1, 1}, {node(9, vari(0), vari(0)), 1, 1},
		{node(api.TLet, vari(0), vari(0)), 1, 1}, {node(api.TApp, vari(0), vari(0), app(vari(0), vari(0))), 3, 2},
		{app(vari(0), app(vari(0), vari(1))), 5, 3}, {let(vari(0), app(vari(0), vari(1)), vari(0)), 6, 3},
		{chainOf(2000, vari(0)), 3999, 2000}, {chainOf(2001, vari(0)), 0, 0},
		{ofSize(19999, vari(0)), 19999, 15}, {ofSize(20000, vari(0)), 20000, 16}, {ofSize(20001, vari(0)), 0, 0}, {ofSize(20002, vari(0)), 0, 0},
	} {
		if Size(x.t) != x.size || Depth(x.t) != x.depth {
			t.Error(i, Size(x.t), Depth(x.t))
		}
	}
	r := rand.New(rand.NewSource(3))
	for range 5000 {
		x := some(r, 9, true)
		all, depths := list(plain(x))
		if Size(x) != len(all) || Depth(x) != slices.Max(depths) {
			t.Fatal(named(x), Size(x), Depth(x))
		}
	}
}

func TestP7_3Same(t *testing.T) {
	bare := node(api.TPi, cons("a"))
	three := node(api.TPi, cons("a"), cons("b"), cons("c"))
	unsound := lsucc(0, num(1))
	for i, x := range []struct {
		a, b api.Term
		want bool
	}{
		{vari(1), vari(1), true}, {vari(1), vari(2), false}, {vari(-1), vari(-1), true},
		{api.Term{Kind: api.TVar, N: 1, Name: "x", Level: num(1)}, vari(1), true},
		{vari(1), node(api.TVar, vari(0)), false}, {vari(0), node(api.TVar, vari(0)), true},
		{sort(num(1)), sort(num(1)), true}, {sort(lmax(lvar(0), lvar(1))), sort(lmax(lvar(1), lvar(0))), true},
		{sort(lvar(0)), sort(lvar(1)), false}, {sort(unsound), sort(unsound), false}, {sort(lsucc(1, num(2))), sort(num(3)), true},
		{cons("a"), cons("a"), true}, {cons("a"), cons("b"), false}, {cons("a", num(1)), cons("a"), false},
		{cons("a", num(1), lvar(0)), cons("a", num(1), lmax(lvar(0), num(0))), true},
		{cons("a", num(1), lvar(0)), cons("a", lvar(0), num(1)), false}, {cons("a", unsound), cons("a", unsound), false},
		{pi(vari(0), vari(1)), lam(vari(0), vari(1)), false}, {pi(vari(0), vari(1)), pi(vari(0), vari(1)), true},
		{app(vari(0), vari(1)), app(vari(1), vari(0)), false}, {app(vari(0), vari(1)), app(vari(0), vari(2)), false},
		{let(vari(0), vari(1), vari(2)), let(vari(0), vari(1), vari(2)), true}, {let(vari(0), vari(1), vari(2)), let(vari(0), vari(1), vari(0)), false},
		{bare, node(api.TPi), true}, {bare, node(api.TPi, vari(9)), true}, {bare, node(api.TLam), false}, {bare, pi(cons("a"), cons("a")), false}, {pi(cons("a"), cons("a")), bare, false},
		{three, pi(cons("a"), cons("b")), true}, {node(api.TLet, vari(0), vari(1)), node(api.TLet), true},
		{api.Term{Kind: 9, N: 1}, api.Term{Kind: 9, Name: "x"}, true}, {api.Term{Kind: 9}, api.Term{Kind: 10}, false}, {api.Term{}, api.Term{}, true}, {node(0, vari(1)), api.Term{}, true},
		{chainOf(2000, vari(0)), chainOf(2000, vari(0)), true}, {chainOf(2000, vari(0)), chainOf(2000, vari(1)), false}, {chainOf(2001, vari(0)), chainOf(2001, vari(0)), false},
		{ofSize(20000, vari(0)), ofSize(20000, vari(0)), true}, {ofSize(20001, vari(0)), ofSize(20001, vari(0)), false},
	} {
		if Same(x.a, x.b) != x.want || Same(x.b, x.a) != x.want {
			t.Error(i, x.want)
		}
	}
	r := rand.New(rand.NewSource(4))
	hits := 0
	for range 30000 {
		a, b := some(r, 1+r.Intn(3), true), some(r, 1+r.Intn(3), true)
		want := named(reduced(a)) == named(reduced(b))
		if want {
			hits++
		}
		if Same(a, b) != want {
			t.Fatal(named(a), named(b), want)
		}
		if !Same(a, plain(a)) {
			t.Fatal(named(a))
		}
	}
	if hits < 100 {
		t.Error("seldom", hits)
	}
}

// reduced tells t with each level as level.Reduce tells it.
func reduced(t api.Term) api.Term {
	t = plain(t)
	if t.Kind == api.TSort {
		t.Level = level.Reduce(t.Level)
	}
	for i := range t.Levels {
		t.Levels[i] = level.Reduce(t.Levels[i])
	}
	for i := range t.Kids {
		t.Kids[i] = reduced(t.Kids[i])
	}
	return t
}

// looseOf tells what Loose must, by names.
func looseOf(t api.Term) int {
	n := 0
	show(t, 0, func(i, _ int) string {
		n = max(n, i+1)
		return ""
	})
	return n
}

func TestP7_3Loose(t *testing.T) {
	for i, x := range []struct {
		t    api.Term
		want int
	}{
		{vari(0), 1}, {vari(4), 5}, {vari(-1), 0}, {vari(math.MinInt), 0}, {cons("a"), 0}, {sort(lvar(3)), 0},
		{vari(math.MaxInt - 1), math.MaxInt}, {vari(math.MaxInt), math.MaxInt}, {lam(cons("a"), vari(math.MaxInt)), math.MaxInt},
		{lam(cons("a"), vari(0)), 0}, {lam(vari(0), vari(0)), 1}, {pi(cons("a"), vari(1)), 1}, {lam(cons("a"), vari(-1)), 0}, {lam(cons("a"), vari(math.MinInt)), 0},
		{let(vari(0), cons("a"), vari(0)), 1}, {let(cons("a"), vari(1), vari(0)), 2}, {let(cons("a"), cons("a"), vari(3)), 3}, {let(cons("a"), cons("a"), vari(0)), 0},
		{app(vari(2), vari(5)), 6}, {app(vari(5), vari(2)), 6}, {node(api.TApp, vari(2)), 0}, {node(api.TApp, vari(0), vari(1), vari(7)), 2}, {node(9, vari(3)), 0}, {api.Term{Kind: 9, N: 3}, 0},
		{api.Term{Kind: api.TConst, N: 4}, 0},
		{chainOf(2000, vari(1999)), 1}, {chainOf(2000, vari(1998)), 0}, {chainOf(2001, vari(3000)), 0}, {ofSize(20000, vari(1)), 1}, {ofSize(20001, vari(1)), 0},
	} {
		if got := Loose(x.t); got != x.want {
			t.Error(i, got, x.want)
		}
	}
	r := rand.New(rand.NewSource(5))
	for range 5000 {
		x := some(r, 7, true)
		if Loose(x) != looseOf(x) {
			t.Fatal(named(x), Loose(x))
		}
	}
}

func TestP7_3Mentions(t *testing.T) {
	x := let(cons("a"), app(vari(0), cons("b", num(1))), lam(sort(num(0)), pi(cons("c.d"), vari(0))))
	for _, s := range []string{"a", "b", "c.d"} {
		if !Mentions(x, s) {
			t.Error(s)
		}
	}
	for _, s := range []string{"", "c", "A", "ab", "e"} {
		if Mentions(x, s) {
			t.Error(s)
		}
	}
	if Mentions(api.Term{Kind: api.TVar, Name: "a"}, "a") || Mentions(node(api.TPi, cons("a")), "a") || Mentions(node(api.TPi, vari(0), vari(0), cons("a")), "a") || Mentions(node(9, cons("a")), "a") || !Mentions(cons(""), "") || Mentions(vari(0), "") {
		t.Error("what is not looked at")
	}
	if !Mentions(chainOf(2000, vari(0)), "a") || Mentions(chainOf(2001, vari(0)), "a") || Mentions(ofSize(20001, cons("a")), "a") {
		t.Error("too great")
	}
}

// liftOf names a variable as Lift must make it.
func liftOf(from, by int) func(i, depth int) string {
	return func(i, depth int) string {
		if i >= from {
			return free(max(i+by, 0), depth)
		}
		return free(i, depth)
	}
}

func TestP7_4Lift(t *testing.T) {
	const top = math.MaxInt
	for i, x := range []struct {
		t        api.Term
		from, by int
		want     api.Term
	}{
		{app(vari(0), vari(3)), 1, 2, app(vari(0), vari(5))},
		{vari(3), 3, 1, vari(4)}, {vari(2), 3, 1, vari(2)}, {vari(3), 0, 0, vari(3)},
		{vari(0), -5, 1, vari(1)}, {vari(-1), -5, 1, vari(-1)}, {lam(cons("a"), vari(0)), -9, 1, lam(cons("a"), vari(0))},
		{lam(vari(1), app(vari(1), vari(2))), 1, 3, lam(vari(4), app(vari(1), vari(5)))},
		{pi(vari(0), vari(1)), 0, 1, pi(vari(1), vari(2))},
		{let(vari(0), vari(0), app(vari(0), vari(1))), 0, 1, let(vari(1), vari(1), app(vari(0), vari(2)))},
		{vari(5), 0, -3, vari(2)}, {vari(5), 0, -9, vari(0)}, {lam(cons("a"), vari(5)), 0, -9, lam(cons("a"), vari(1))}, {vari(5), 5, -9, vari(0)}, {vari(5), 6, -9, vari(5)},
		{lam(cons("a"), lam(cons("a"), vari(4))), 1, -2, lam(cons("a"), lam(cons("a"), vari(2)))},
		{vari(7), 0, 1048576, vari(1048583)}, {vari(7), 0, 1048577, vari(1048583)}, {vari(7), 0, top, vari(1048583)},
		{vari(1048580), 0, -1048576, vari(4)}, {vari(1048580), 0, -1048577, vari(4)}, {vari(1048580), 0, math.MinInt, vari(4)},
		{vari(top), 0, 1, vari(top)}, {vari(top - 3), 0, 3, vari(top)}, {vari(top - 3), 0, 4, vari(top)}, {vari(top - 3), 0, 2, vari(top - 1)}, {vari(top), top, 5, vari(top)}, {vari(top - 1), top, 5, vari(top - 1)}, {vari(top), top, -5, vari(top - 5)},
		{lam(cons("a"), vari(top)), top - 1, -2, lam(cons("a"), vari(top-2))}, {lam(cons("a"), vari(top-1)), top - 1, -2, lam(cons("a"), vari(top-1))},
		{vari(math.MinInt), 0, -5, vari(math.MinInt)}, {lam(cons("a"), vari(math.MinInt)), 3, 5, lam(cons("a"), vari(math.MinInt))},
		{node(api.TPi, vari(0)), 0, 1, api.Term{Kind: api.TPi}}, {node(api.TPi, vari(0), vari(1), vari(0)), 0, 1, pi(vari(1), vari(2))}, {api.Term{Kind: 9, N: 2, Kids: []api.Term{vari(0)}}, 0, 1, api.Term{Kind: 9}},
		{cons("a", num(1)), 0, 1, cons("a", num(1))}, {sort(lmax(num(1), lvar(0))), 0, 1, sort(lmax(num(1), lvar(0)))}, {sort(lsucc(0, num(1))), 0, 1, sort(lsucc(0, num(1)))},
		{api.Term{}, 0, 1, api.Term{}},
		{chainOf(2000, vari(1999)), 0, 1, chainOf(2000, vari(2000))}, {chainOf(2001, vari(1999)), 0, 1, api.Term{}},
		{ofSize(19999, vari(0)), 0, 1, ofSize(19999, vari(1))}, {ofSize(20001, vari(0)), 0, 1, api.Term{}},
	} {
		is(t, fmt.Sprint(i), Lift(x.t, x.from, x.by), x.want)
	}
	r := rand.New(rand.NewSource(6))
	for range 10000 {
		x, from, by := some(r, 7, true), r.Intn(7)-1, r.Intn(9)-4
		got := Lift(x, from, by)
		if named(got) != show(x, 0, liftOf(max(from, 0), by)) {
			t.Fatal(named(x), from, by, named(got))
		}
		is(t, "plain", got, plain(got))
	}
}

// instOf names a variable as Inst of v must make it.
func instOf(v api.Term) func(i, depth int) string {
	return func(i, depth int) string {
		if i == 0 {
			return show(v, depth, free)
		}
		return free(i-1, depth)
	}
}

func TestP7_4Inst(t *testing.T) {
	const top = math.MaxInt
	for i, x := range []struct{ t, v, want api.Term }{
		{lam(cons("a"), app(vari(1), vari(0))), cons("c"), lam(cons("a"), app(cons("c"), vari(0)))},
		{vari(0), vari(5), vari(5)}, {vari(1), vari(5), vari(0)}, {vari(-1), vari(5), vari(-1)}, {vari(top), vari(5), vari(top - 1)},
		{lam(vari(0), lam(vari(1), vari(2))), app(vari(0), vari(1)), lam(app(vari(0), vari(1)), lam(app(vari(1), vari(2)), app(vari(2), vari(3))))},
		{lam(cons("a"), vari(1)), lam(vari(0), vari(0)), lam(cons("a"), lam(vari(1), vari(0)))},
		{lam(cons("a"), vari(1)), vari(top), lam(cons("a"), vari(top))}, {lam(cons("a"), vari(1)), vari(-1), lam(cons("a"), vari(-1))},
		{let(vari(0), vari(0), app(vari(0), vari(1))), cons("z"), let(cons("z"), cons("z"), app(vari(0), cons("z")))},
		{pi(vari(0), vari(0)), cons("z"), pi(cons("z"), vari(0))},
		{vari(0), node(api.TPi, vari(0)), api.Term{Kind: api.TPi}}, {node(api.TPi, vari(0)), vari(1), api.Term{Kind: api.TPi}}, {app(vari(0), api.Term{Kind: 9, N: 1}), vari(1), app(vari(1), api.Term{Kind: 9})},
		{node(api.TApp, vari(0), vari(1), vari(0)), vari(1), app(vari(1), vari(0))},
		{sort(lvar(0)), vari(1), sort(lvar(0))},
	} {
		is(t, fmt.Sprint(i), Inst(x.t, x.v), x.want)
	}
	r := rand.New(rand.NewSource(7))
	for range 10000 {
		x, v := some(r, 7, true), some(r, 4, true)
		got := Inst(x, v)
		if named(got) != show(x, 0, instOf(v)) {
			t.Fatal(named(x), named(v), named(got))
		}
		is(t, "plain", got, plain(got))
	}
}

func TestP7_4InstTooGreat(t *testing.T) {
	small := ofSize(7, vari(0)) // four places
	for i, x := range []struct {
		t, v api.Term
		ok   bool
	}{
		{small, ofSize(4999, cons("a")), true}, {small, ofSize(5000, cons("a")), false},
		{app(vari(0), vari(1)), ofSize(19998, cons("a")), true}, {app(vari(0), vari(1)), ofSize(19999, cons("a")), false},
		{vari(0), ofSize(20000, cons("a")), true}, {vari(0), ofSize(20001, cons("a")), false},
		{vari(1), ofSize(20000, cons("a")), true}, {vari(1), ofSize(20001, cons("a")), false}, {cons("a"), chainOf(2001, cons("a")), false},
		{ofSize(20000, vari(0)), cons("a"), true}, {ofSize(20001, vari(1)), cons("a"), false}, {ofSize(19999, vari(0)), ofSize(19999, cons("a")), false},
		{chainOf(1000, vari(999)), chainOf(1001, cons("a")), true}, {chainOf(1000, vari(999)), chainOf(1002, cons("a")), false},
		{app(chainOf(1000, cons("a")), vari(0)), chainOf(1999, cons("a")), true}, {app(chainOf(1000, cons("a")), vari(0)), chainOf(2000, cons("a")), false},
		{app(vari(0), chainOf(1000, vari(999))), chainOf(1000, cons("a")), true}, {app(vari(0), chainOf(1000, vari(999))), chainOf(1001, cons("a")), false},
		{chainOf(2000, vari(1999)), cons("a"), true}, {chainOf(2000, vari(1999)), app(cons("a"), cons("a")), false}, {chainOf(2001, vari(1999)), cons("a"), false},
	} {
		got := Inst(x.t, x.v)
		if (got.Kind != 0) != x.ok {
			t.Error(i, got.Kind)
		}
		if !x.ok {
			is(t, fmt.Sprint(i), got, api.Term{})
		}
	}
}

func TestP7_1AppsTooGreat(t *testing.T) {
	many := make([]api.Term, 2001)
	for i := range many {
		many[i] = cons("a")
	}
	for i, x := range []struct {
		f    api.Term
		args []api.Term
		ok   bool
	}{
		{ofSize(20000, vari(0)), nil, true}, {ofSize(20001, vari(0)), nil, false}, {ofSize(20001, vari(0)), many[:1], false},
		{ofSize(19998, vari(0)), many[:1], true}, {ofSize(19999, vari(0)), many[:1], false}, {cons("f"), []api.Term{ofSize(19998, vari(0))}, true}, {cons("f"), []api.Term{ofSize(19999, vari(0))}, false},
		{cons("f"), []api.Term{ofSize(9998, vari(0)), ofSize(9999, vari(0))}, true}, {cons("f"), []api.Term{ofSize(9999, vari(0)), ofSize(9999, vari(0))}, false}, {cons("f"), []api.Term{ofSize(20001, vari(0)), cons("a")}, false},
		{cons("f"), many[:1999], true}, {cons("f"), many[:2000], false}, {cons("f"), many, false}, {chainOf(1000, cons("f")), many[:1000], true}, {chainOf(1000, cons("f")), many[:1001], false},
		{cons("f"), []api.Term{chainOf(1998, cons("a")), cons("a")}, true}, {cons("f"), []api.Term{chainOf(1999, cons("a")), cons("a")}, false}, {cons("f"), []api.Term{cons("a"), chainOf(1999, cons("a"))}, true}, {cons("f"), []api.Term{cons("a"), chainOf(2000, cons("a"))}, false},
	} {
		got := Apps(x.f, x.args...)
		if (got.Kind != 0) != x.ok {
			t.Error(i, got.Kind)
		}
		if !x.ok {
			is(t, fmt.Sprint(i), got, api.Term{})
		}
	}
	for i, x := range []api.Term{ofSize(20002, vari(0)), chainOf(2001, vari(0)), app(ofSize(20001, vari(0)), vari(1)), app(vari(0), chainOf(2000, vari(1)))} {
		if head, args := Spine(x); !reflect.DeepEqual(head, x) || len(args) != 0 {
			t.Error(i, head.Kind, len(args))
		}
	}
	if head, args := Spine(app(chainOf(1999, vari(0)), vari(1))); !reflect.DeepEqual(head, chainOf(1999, vari(0))) || len(args) != 1 {
		t.Error(head.Kind, len(args))
	}
}

func TestP7_1KeepsWhatIsTooGreat(t *testing.T) {
	for i, x := range []api.Term{ofSize(20002, vari(0)), chainOf(2001, vari(0)), chainOf(60000, vari(0))} {
		is(t, fmt.Sprint(i), Pi(x, vari(0)), pi(x, vari(0)))
		is(t, fmt.Sprint(i), Lam(vari(0), x), lam(vari(0), x))
		is(t, fmt.Sprint(i), Let(vari(0), x, vari(1)), let(vari(0), x, vari(1)))
	}
}

func TestP7_4InstLevels(t *testing.T) {
	vs := []api.Level{num(4), lsucc(1, lvar(2))}
	for i, x := range []struct{ t, want api.Term }{
		{sort(lvar(0)), sort(num(4))}, {sort(lvar(1)), sort(lsucc(1, lvar(2)))}, {sort(lvar(2)), sort(lvar(2))}, {sort(lmax(num(3), lvar(0))), sort(num(4))},
		{cons("a", lvar(1), num(2), lsucc(2, lvar(0))), cons("a", lsucc(1, lvar(2)), num(2), num(6))}, {cons("a"), cons("a")},
		{sort(lsucc(0, num(1))), sort(api.Level{})}, {cons("a", num(1), lsucc(0, num(1))), cons("a", num(1), api.Level{})},
		{pi(sort(lvar(0)), lam(vari(1), let(cons("b", lvar(0)), vari(-1), app(sort(num(1)), vari(0))))), pi(sort(num(4)), lam(vari(1), let(cons("b", num(4)), vari(-1), app(sort(num(1)), vari(0)))))},
		{node(api.TPi, sort(lvar(0))), api.Term{Kind: api.TPi}}, {node(api.TPi, sort(lvar(0)), vari(0), vari(3)), pi(sort(num(4)), vari(0))}, {api.Term{Kind: 9, Level: lvar(0)}, api.Term{Kind: 9}},
		{api.Term{Kind: api.TVar, N: 1, Level: lvar(0), Levels: vs}, vari(1)}, {api.Term{Kind: api.TSort, N: 1, Name: "x", Level: lvar(0), Levels: vs}, sort(num(4))}, {api.Term{Kind: api.TConst, N: 1, Name: "x", Level: lvar(0)}, cons("x")},
		{chainOf(2000, sort(lvar(0))), chainOf(2000, sort(num(4)))}, {chainOf(2001, sort(lvar(0))), api.Term{}}, {ofSize(20001, vari(0)), api.Term{}},
	} {
		is(t, fmt.Sprint(i), InstLevels(x.t, vs), x.want)
	}
	is(t, "no levels", InstLevels(app(sort(lmax(num(0), lvar(1))), vari(0)), nil), app(sort(lvar(1)), vari(0)))
	r := rand.New(rand.NewSource(8))
	for range 3000 {
		x, ls := some(r, 6, true), someLevels(r, r.Intn(4))
		got, was := InstLevels(x, ls), plain(x)
		all, _ := list(got)
		before, _ := list(was)
		for i, n := range all {
			if n.Kind != before[i].Kind || n.N != before[i].N || n.Name != before[i].Name || len(n.Levels) != len(before[i].Levels) || len(n.Kids) != len(before[i].Kids) {
				t.Fatal(named(x), named(got))
			}
			for j, l := range n.Levels {
				if !reflect.DeepEqual(l, level.Inst(before[i].Levels[j], ls)) {
					t.Fatal(named(x), named(got))
				}
			}
			if n.Kind == api.TSort && !reflect.DeepEqual(n.Level, level.Inst(before[i].Level, ls)) {
				t.Fatal(named(x), named(got))
			}
		}
	}
}

func TestP7_5Laws(t *testing.T) {
	r := rand.New(rand.NewSource(9))
	for range 5000 {
		x, u, v := some(r, 6, true), some(r, 4, true), some(r, 4, true)
		i, a, b := r.Intn(6)-1, r.Intn(4), r.Intn(4)
		is(t, "lift twice", Lift(Lift(x, i, a), i, b), Lift(x, i, a+b))
		is(t, "put into what was lifted", Inst(Lift(x, 0, 1), v), plain(x))
		under := Inst(lam(cons("a"), x), v).Kids[1]
		is(t, "both ways round", Inst(Inst(x, u), v), Inst(under, Inst(u, v)))
	}
}

func TestP7_6Size(t *testing.T) {
	r := rand.New(rand.NewSource(10))
	for range 5000 {
		x, v := some(r, 6, true), some(r, 4, true)
		n := 0
		show(x, 0, func(i, _ int) string {
			if i == 0 {
				n++
			}
			return ""
		})
		if Size(Inst(x, v)) != Size(x)+n*(Size(v)-1) {
			t.Fatal(named(x), named(v))
		}
	}
}

// memory notes where each list of the terms begins, with what lies behind its
// length; it tells whether one was noted ahead.
type memory struct {
	terms  map[*api.Term]int
	levels map[*api.Level]int
	twice  bool
}

func newMemory() *memory {
	return &memory{terms: map[*api.Term]int{}, levels: map[*api.Level]int{}}
}

func (m *memory) note(ts []api.Term) {
	all := ts[:cap(ts)]
	for i := range all {
		m.terms[&all[i]]++
		m.twice = m.twice || m.terms[&all[i]] > 1
	}
	for _, t := range ts {
		m.note(t.Kids)
		m.noteLevels(t.Levels)
		m.noteLevels(t.Level.Kids)
	}
}

func (m *memory) noteLevels(ls []api.Level) {
	all := ls[:cap(ls)]
	for i := range all {
		m.levels[&all[i]]++
		m.twice = m.twice || m.levels[&all[i]] > 1
	}
	for _, l := range ls {
		m.noteLevels(l.Kids)
	}
}

// roomy tells a copy of t whose lists have something behind their lengths.
func roomy(t api.Term) api.Term {
	kids := make([]api.Term, 0, len(t.Kids)+2)
	for _, k := range t.Kids {
		kids = append(kids, roomy(k))
	}
	kids = append(kids, cons("behind"), cons("behind"))
	levels := append(append(make([]api.Level, 0, len(t.Levels)+1), t.Levels...), num(77))
	t.Kids, t.Levels = kids[:len(t.Kids)], levels[:len(t.Levels)]
	return t
}

// answers tells what each call that tells terms makes of these.
func answers(a, b, c api.Term, ls []api.Level, args []api.Term) [][]api.Term {
	head, rest := Spine(a)
	return [][]api.Term{{Pi(a, b)}, {Lam(a, b)}, {Let(a, b, c)}, {Sort(ls[0])}, {Const("x", ls...)}, {Apps(a, args...)}, {Apps(a)}, append([]api.Term{head}, rest...), {Lift(a, 1, 2)}, {Lift(a, 0, 0)}, {Inst(a, b)}, {InstLevels(a, ls)}}
}

func TestR2Memory(t *testing.T) {
	r := rand.New(rand.NewSource(11))
	shared := app(cons("s", lmax(num(1), lvar(0))), vari(0))
	for range 300 {
		a, b, c := roomy(app(some(r, 5, true), shared)), roomy(some(r, 5, true)), roomy(app(shared, shared))
		ls := []api.Level{lmax(num(1), lvar(2)), lsucc(1, lvar(1)), lsucc(2, lvar(0))}
		args := roomy(node(9, a, b, shared, shared)).Kids
		given := append([]api.Term{a, b, c}, args...)
		before := fmt.Sprintf("%+v %+v %+v", given, ls, args[:cap(args)])
		got := answers(a, b, c, ls, args)
		May(a, 3)
		Same(a, b)
		Same(a, a)
		Loose(a)
		Mentions(a, "a")
		if fmt.Sprintf("%+v %+v %+v", given, ls, args[:cap(args)]) != before {
			t.Fatal("what was handed in has changed")
		}
		for i, ts := range got {
			m := newMemory()
			m.note(ts)
			if m.twice {
				t.Fatal(i, "two lists of one answer share memory")
			}
			in := newMemory()
			in.note(given)
			in.note(args)
			in.noteLevels(ls)
			for p := range m.terms {
				if in.terms[p] > 0 {
					t.Fatal(i, "an answer shares memory with what was handed in")
				}
			}
			for p := range m.levels {
				if in.levels[p] > 0 {
					t.Fatal(i, "an answer shares levels with what was handed in")
				}
			}
		}
	}
}

func TestR2NilAndEmpty(t *testing.T) {
	empty := api.Term{Kind: api.TConst, Name: "a", Levels: []api.Level{}, Kids: []api.Term{}}
	if !Same(empty, cons("a")) || May(empty, 0) != api.OK || Size(empty) != 1 {
		t.Error("an empty list")
	}
	if x := InstLevels(empty, []api.Level{}); len(x.Levels)+len(x.Kids) != 0 || x.Name != "a" {
		t.Error(x)
	}
}

func TestR6FieldsWithoutMeaning(t *testing.T) {
	full := func(kind int, kids ...api.Term) api.Term {
		return api.Term{Kind: kind, N: 3, Name: "n", Level: lmax(num(1), num(2)), Levels: []api.Level{lvar(0)}, Kids: kids}
	}
	x, y := full(api.TVar, vari(0)), full(api.TSort, vari(0))
	z, w := full(api.TConst, vari(0)), full(9, vari(0))
	all := full(api.TLet, x, full(api.TApp, y, z, w), full(api.TPi, w), x)
	want := let(vari(3), app(sort(lmax(num(1), num(2))), cons("n", lvar(0))), api.Term{Kind: api.TPi})
	is(t, "Lift", Lift(all, 0, 0), want)
	is(t, "Lam", Lam(all, all), lam(want, want))
	is(t, "Apps", Apps(all, w), app(want, api.Term{Kind: 9}))
	is(t, "Inst", Inst(all, vari(0)), let(vari(2), want.Kids[1], want.Kids[2]))
	is(t, "InstLevels", InstLevels(all, nil), let(vari(3), app(sort(num(2)), cons("n", lvar(0))), api.Term{Kind: api.TPi}))
	head, _ := Spine(all)
	is(t, "Spine", head, want)
	odd := api.Level{Kind: api.LMax, N: 5, Kids: []api.Level{num(1), {Kind: 7, N: 3}}}
	is(t, "Sort", Sort(odd), sort(lmax(num(1), api.Level{Kind: 7})))
	if !Same(all, want) || Size(all) != 6 || Depth(all) != 3 {
		t.Error(Size(all), Depth(all))
	}
}

// endless tells terms that are their own kids, or hold a level that is, or
// far more nodes than there is memory.
func endless() []api.Term {
	var out []api.Term
	for _, kind := range []int{api.TPi, api.TLam, api.TLet, api.TApp} {
		for i := range 3 {
			kids := []api.Term{vari(0), vari(0), vari(0)}
			kids[i] = api.Term{Kind: kind, Kids: kids}
			out = append(out, kids[i])
		}
		kids := make([]api.Term, 3)
		for i := range kids {
			kids[i] = api.Term{Kind: kind, Kids: kids}
		}
		out = append(out, kids[0])
	}
	out = append(out, doubled(60, vari(0)))
	up := make([]api.Level, 2)
	up[0] = api.Level{Kind: api.LMax, Kids: up}
	up[1] = api.Level{Kind: api.LSucc, N: 1, Kids: up[:1]}
	broad := num(1)
	for range 60 {
		broad = lmax(broad, broad)
	}
	for _, l := range up {
		out = append(out, sort(l), cons("a", l, l), doubled(12, sort(l)), doubled(12, cons("a", num(1), l)))
	}
	return append(out, doubled(12, sort(broad)))
}

func TestR3Ends(t *testing.T) {
	all := endless()
	for i, x := range all {
		y := all[(i+1)%len(all)]
		Pi(x, y)
		Lam(y, x)
		Let(x, vari(0), y)
		Sort(x.Level)
		Const("a", x.Levels...)
		Apps(x, y, x)
		Apps(vari(0), x)
		Spine(x)
		Lift(x, 0, 1)
		Inst(x, vari(1))
		Inst(vari(0), x)
		Inst(x, y)
		InstLevels(x, x.Levels)
		InstLevels(x, []api.Level{x.Level})
		if Same(x, x) && Size(x) == 0 || Loose(x) < 0 || Mentions(x, "b") || May(x, 3) == api.OK && x.Kind != api.TApp {
			t.Error(i)
		}
	}
	for _, n := range []int{math.MinInt, -1, 0, 1, math.MaxInt} {
		for _, m := range []int{math.MinInt, -1, 0, 1, math.MaxInt} {
			for _, k := range []int{math.MinInt, -1, 0, 1, math.MaxInt} {
				Lift(lam(vari(n), vari(n)), m, k)
			}
		}
		May(sort(lvar(n)), n)
		Inst(vari(n), vari(n))
	}
}
