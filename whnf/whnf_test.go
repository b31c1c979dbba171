package whnf

import (
	"fmt"
	"math"
	"slices"
	"strings"
	"testing"

	"assize/api"
	"assize/syntax"
)

// p is the term of a text.
func p(s string) api.Term {
	t, e := syntax.Parse(s)
	if e != api.OK {
		panic(s)
	}
	return t
}

// The terms that no text says, or that are too great for one, are data.
func node(kind int, kids ...api.Term) api.Term { return api.Term{Kind: kind, Kids: kids} }
func vari(n int) api.Term                      { return api.Term{Kind: api.TVar, N: n} }
func cons(name string, ls ...api.Level) api.Term {
	return api.Term{Kind: api.TConst, Name: name, Levels: ls}
}
func sort(l api.Level) api.Term { return api.Term{Kind: api.TSort, Level: l} }
func num(n int) api.Level       { return api.Level{Kind: api.LNum, N: n} }
func lvar(i int) api.Level      { return api.Level{Kind: api.LVar, N: i} }
func app(f api.Term, args ...api.Term) api.Term {
	for _, a := range args {
		f = node(api.TApp, f, a)
	}
	return f
}

// ofSize tells a term of n nodes, n odd, which is not deep, of leaves.
func ofSize(n int, leaf api.Term) api.Term {
	if n == 1 {
		return leaf
	}
	left := n / 2
	if left%2 == 0 {
		left--
	}
	return app(ofSize(left, leaf), ofSize(n-1-left, leaf))
}

// show tells all of t, nil and empty lists alike.
func show(t api.Term) string { return fmt.Sprintf("%+v", t) }

// is asks for an answer of Whnf or Normal.
func is(t *testing.T, name string, got api.Term, left int, e api.Errno, want api.Term, wantLeft int, wantE api.Errno) {
	t.Helper()
	if left != wantLeft || e != wantE {
		t.Errorf("%s: %d left, errno %d, not %d and %d", name, left, e, wantLeft, wantE)
	} else if show(got) != show(want) {
		t.Errorf("%s: got %s, want %s", name, show(got), show(want))
	}
}

// list goes over e's globals as a caller's own loop does.
func list(e *Env) []api.Global {
	var l []api.Global
	for g := range e.All() {
		l = append(l, g)
	}
	return l
}

// names tells e's names in order.
func names(e *Env) string {
	var l []string
	for _, g := range list(e) {
		l = append(l, g.Name)
	}
	return strings.Join(l, " ")
}

func def(name, value string) api.Global {
	return api.Global{Kind: api.GDef, Name: name, Value: p(value)}
}

// full is one global of each kind, with something in all of its fields.
func full() []api.Global {
	g := api.Global{Vars: 2, Type: p("(pi (sort u0) (at a u1))"), Value: p("(lam #0 (app b #0))"), Ind: "i", Params: 3, Indices: 4, Fields: 5, Ctors: []string{"c", "d"}, Minors: 6, Rules: []api.Rule{{Ctor: "c", Fields: 7, Body: p("(lam #0 c)")}, {Ctor: "d", Fields: -1, Body: p("(app d #3)")}}}
	var l []api.Global
	for kind := range 8 {
		g.Kind, g.Name = kind-1, fmt.Sprint("n", kind)
		l = append(l, g)
	}
	return append(l, api.Global{}, api.Global{Name: "No name", Vars: -1, Params: math.MinInt, Minors: math.MaxInt})
}

func TestP10_1TakenAsTheyAre(t *testing.T) {
	l := full()
	e := New(l)
	if got := list(e); fmt.Sprintf("%+v", got) != fmt.Sprintf("%+v", l) || e.Len() != len(l) {
		t.Errorf("%+v", got)
	}
	for _, g := range l {
		if got, ok := e.Find(g.Name); !ok || fmt.Sprintf("%+v", got) != fmt.Sprintf("%+v", g) {
			t.Errorf("%+v", got)
		}
	}
	if got, ok := e.Find("n9"); ok || fmt.Sprintf("%+v", got) != fmt.Sprintf("%+v", api.Global{}) {
		t.Errorf("%+v", got)
	}
	great := api.Global{Kind: api.GDef, Name: "great", Type: ofSize(20001, cons("a")), Value: ofSize(30001, sort(num(1)))}
	if got, _ := New([]api.Global{great}).Find("great"); fmt.Sprintf("%+v", got) != fmt.Sprintf("%+v", great) {
		t.Error("a term that is too great is told otherwise")
	}
}

func TestP10_1FirstOfOneName(t *testing.T) {
	e := New([]api.Global{def("b", "x"), def("a", "y"), def("b", "z"), {Kind: api.GAxiom, Name: "a"}, def("c", "b")})
	if names(e) != "b a c" || e.Len() != 3 {
		t.Error(names(e), e.Len())
	}
	if g, _ := e.Find("b"); g.Value.Name != "x" {
		t.Error(g.Value.Name)
	}
	got, left, err := Whnf(e, p("c"), 9)
	is(t, "c", got, left, err, p("x"), 7, api.OK)
}

func TestP10_1With(t *testing.T) {
	e := New([]api.Global{def("b", "x")})
	f := e.With(def("a", "y"), def("b", "z"), def("a", "b"))
	g := f.With(def("c", "a"))
	h := f.With(def("d", "a"), def("c", "d"))
	for i, x := range []struct {
		e    *Env
		want string
	}{{e, "b"}, {f, "b a"}, {g, "b a c"}, {h, "b a d c"}, {f, "b a"}, {e.With(), "b"}, {New(nil), ""}, {New(nil).With(), ""}, {New(nil).With(def("a", "b")), "a"}, {h.With(list(g)...), "b a d c"}} {
		if names(x.e) != x.want || x.e.Len() != len(strings.Fields(x.want)) {
			t.Error(i, names(x.e), x.e.Len())
		}
		for _, n := range []string{"a", "b", "c", "d", "x"} {
			if _, ok := x.e.Find(n); ok != slices.Contains(strings.Fields(x.want), n) {
				t.Error(i, n, ok)
			}
		}
	}
	for i, x := range []struct {
		e    *Env
		want string
	}{{e, "c"}, {f, "c"}, {g, "y"}, {h, "y"}} {
		if got, _, _ := Whnf(x.e, p("c"), 9); syntax.Text(got) != x.want {
			t.Error(i, syntax.Text(got))
		}
	}
}

// TestP10_1Apart: environments that were made of one do not meet.
func TestP10_1Apart(t *testing.T) {
	e, want := New(nil), ""
	for i := range 20 {
		f, g := e.With(def("left", "x")), e.With(def("right", "x"))
		if names(f) != want+"left" || names(g) != want+"right" || names(e) != strings.TrimSpace(want) {
			t.Error(names(f), names(g), names(e))
		}
		name := fmt.Sprint("n", i)
		e, want = e.With(def(name, "x")), want+name+" "
	}
}

func TestP10_1All(t *testing.T) {
	e := New([]api.Global{def("b", "x"), def("a", "y"), def("c", "y")})
	all := e.All()
	for range 2 {
		got := ""
		for g := range all {
			got += g.Name
			if g.Name == "a" {
				break
			}
		}
		if got != "ba" {
			t.Error(got)
		}
	}
	all(nil)
	New(nil).All()(nil)
}

func TestR3NoEnv(t *testing.T) {
	var none *Env
	for i, e := range []*Env{none, {}, New(nil), New([]api.Global{})} {
		if g, ok := e.Find("a"); ok || g.Kind != 0 || e.Len() != 0 || len(list(e)) != 0 {
			t.Error(i)
		}
		e.All()(nil)
		f := e.With(def("a", "b"))
		if f.Len() != 1 || names(f) != "a" || e.Len() != 0 || e.With() == nil {
			t.Error(i)
		}
		got, left, err := Whnf(e, p("(app (lam x a) y)"), 3)
		is(t, fmt.Sprint(i), got, left, err, p("a"), 2, api.OK)
		got, left, err = Normal(e, p("(app a (app (lam x #0) y))"), 3)
		is(t, fmt.Sprint(i), got, left, err, p("(app a y)"), 2, api.OK)
	}
}

// rules are what the tests of steps stand on: numbers, rows with a length, and
// things that look like them.
func rules() *Env {
	natRules := []api.Rule{{Ctor: "zero", Body: p("(lam a (lam a (lam a #1)))")}, {Ctor: "succ", Fields: 1, Body: p("(lam a (lam a (lam a (lam nat (app #1 #0 (app (at rec u0) #3 #2 #1 #0))))))")}}
	for _, no := range []string{"axiom", "nat", "other", "unknown", "rec"} {
		natRules = append(natRules, api.Rule{Ctor: no, Body: p("c")})
	}
	rec := func(name string) api.Global {
		return api.Global{Kind: api.GRec, Name: name, Vars: 1, Ind: "nat", Minors: 2, Rules: natRules}
	}
	l := []api.Global{
		{Kind: api.GInd, Name: "nat", Ctors: []string{"zero", "succ"}, Value: p("c"), Ind: "nat"},
		{Kind: api.GCtor, Name: "zero", Ind: "nat"}, {Kind: api.GCtor, Name: "succ", Ind: "nat", Fields: 1}, rec("rec"),
		{Kind: api.GCtor, Name: "other", Ind: "nut"}, {Kind: api.GCtor, Name: "unruled", Ind: "nat"}, {Kind: api.GAxiom, Name: "axiom", Ind: "nat", Value: p("c")}, {Kind: api.GCtor, Name: "self", Ind: "nat", Vars: 1, Value: p("c")},
		{Kind: api.GDef, Name: "one", Value: p("(app succ zero)")}, {Kind: api.GDef, Name: "two", Value: p("(app succ one)")},
		{Kind: api.GDef, Name: "id", Vars: 1, Value: p("(lam (sort u0) (lam #0 #0))")}, {Kind: api.GDef, Name: "pair", Vars: 2, Value: p("(app (at x u1 u0) (sort (max u0 (+ 1 u1))))")},
		{Kind: api.GDef, Name: "minus", Vars: -1, Value: p("c")}, {Kind: api.GRec, Name: "minusrec", Vars: -1, Ind: "nat", Minors: 2, Rules: natRules},
		{Kind: api.GDef, Name: "loop", Value: p("loop")}, {Kind: 6, Name: "kindless", Value: p("c")},
		{Kind: api.GDef, Name: "add", Value: p("(lam nat (lam nat (app (at rec 0) m #0 (lam nat (lam nat (app succ #0))) #1)))")},
		// vec A n: nil : vec A zero; cons : pi n a (rest : vec A n), vec A (succ n).
		{Kind: api.GCtor, Name: "nil", Ind: "vec", Params: 1}, {Kind: api.GCtor, Name: "cons", Ind: "vec", Vars: 1, Params: 1, Fields: 3},
		{Kind: api.GRec, Name: "vec.rec", Vars: 2, Ind: "vec", Params: 1, Minors: 2, Indices: 1, Rules: []api.Rule{{Ctor: "nil", Body: p("(at n u0 u1)")}, {Ctor: "cons", Fields: 3, Body: p("(at s u1 u0)")}, {Ctor: "cons", Fields: 3, Body: p("second")}}},
	}
	for name, change := range map[string]func(*api.Global){
		"negparams": func(g *api.Global) { g.Params = -1 }, "negminors": func(g *api.Global) { g.Minors = -1 }, "negindices": func(g *api.Global) { g.Indices = -1 },
		"fewer": func(g *api.Global) { g.Params, g.Minors = -1, 3 }, "mixed": func(g *api.Global) { g.Minors, g.Indices = 3, -1 },
		"negfields": func(g *api.Global) {
			g.Rules = []api.Rule{{Ctor: "zero", Fields: -1, Body: p("c")}, {Ctor: "succ", Fields: math.MinInt, Body: p("c")}}
		},
		"paramsminusfields": func(g *api.Global) {
			g.Params, g.Minors, g.Rules = 1, 1, []api.Rule{{Ctor: "zero", Fields: -1, Body: p("c")}}
		},
		"wrapping":  func(g *api.Global) { g.Params, g.Minors, g.Indices = math.MaxInt, math.MaxInt, 3 },
		"wrapping2": func(g *api.Global) { g.Params, g.Minors, g.Indices = 1<<62, 1<<62, 1<<62 },
		"fieldful":  func(g *api.Global) { g.Rules = []api.Rule{{Ctor: "zero", Fields: math.MaxInt, Body: p("c")}} },
	} {
		g := rec(name)
		change(&g)
		l = append(l, g)
	}
	return New(l)
}

// stepCases are terms, what Whnf makes of them, and how much fuel it takes.
var stepCases = []struct {
	s, want string
	cost    int
}{
	// No step.
	{"c", "c", 0}, {"#3", "#3", 0}, {"(sort (max 1 u0))", "(sort (max 1 u0))", 0}, {"(pi one one)", "(pi one one)", 0}, {"(lam one one)", "(lam one one)", 0}, {"(app c one)", "(app c one)", 0}, {"(app #0 one)", "(app #0 one)", 0}, {"(app (sort 0) one)", "(app (sort 0) one)", 0}, {"(app (pi one one) one)", "(app (pi one one) one)", 0},
	// beta
	{"(app (lam nat #0) c)", "c", 1}, {"(app (lam nat #0) c d e)", "(app c d e)", 1}, {"(app (lam nat (lam nat (app #0 #1 #2))) c d)", "(app d c #0)", 2}, {"(app (lam nat (lam nat (app #0 #1 #2))) #4)", "(lam nat (app #0 #5 #1))", 1}, {"(app (lam one one) one)", "(app succ zero)", 2}, {"(app (lam nat #0) (lam nat #0) one)", "(app succ zero)", 3}, {"(app (lam nat #0) (app c d) e)", "(app c d e)", 1}, {"(app (lam nat (app #0 #0)) one)", "(app succ zero one)", 2},
	// zeta
	{"(let nat c (app #0 #0))", "(app c c)", 1}, {"(app (let nat c (app #0 #1)) d #0)", "(app c #0 d #0)", 1}, {"(let nat (let a b #0) #0)", "b", 2}, {"(let nat (lam nat #0) (app #0 one))", "(app succ zero)", 3},
	// delta
	{"one", "(app succ zero)", 1}, {"(app one #0 c)", "(app succ zero #0 c)", 1}, {"two", "(app succ one)", 1}, {"id", "id", 0}, {"(at id 3)", "(lam (sort 3) (lam #0 #0))", 1}, {"(app (at id 3) c d)", "d", 3}, {"(at id 3 4)", "(at id 3 4)", 0}, {"(at one 0)", "(at one 0)", 0}, {"(app (at pair u4 2) c)", "(app (at x 2 u4) (sort (max 3 u4)) c)", 1}, {"minus", "minus", 0}, {"(at minus 0)", "(at minus 0)", 0},
	{"axiom", "axiom", 0}, {"nat", "nat", 0}, {"zero", "zero", 0}, {"kindless", "kindless", 0}, {"(at self 0)", "(at self 0)", 0}, {"(at rec 0)", "(at rec 0)", 0}, {"unknown", "unknown", 0},
	// iota
	{"(app (at rec 0) m z s zero)", "z", 4}, {"(app (at rec 0) m z s zero c d)", "(app z c d)", 4}, {"(app (at rec u7) m z s (app succ n) x)", "(app s n (app (at rec u7) m z s n) x)", 5}, {"(app (at rec 0) m z s one)", "(app s zero (app (at rec 0) m z s zero))", 6}, {"(app (at rec 0) m z s (app (lam nat (app (at id 1) nat #0)) one))", "(app s zero (app (at rec 0) m z s zero))", 10}, {"(app add one two)", "(app succ (app (at rec 0) m two (lam nat (lam nat (app succ #0))) zero))", 11}, {"(app (at rec 0) m z s (app (at rec 0) m zero s zero))", "z", 8}, {"(app (at rec 0) m z s (app (at rec 0) m (at rec 0) s zero m one s zero))", "(app s zero (app (at rec 0) m z s zero))", 14},
	{"(app (at vec.rec u3 2) a m n s i (at nil 1) x)", "(app (at vec.rec u3 2) a m n s i (at nil 1) x)", 0}, {"(app (at vec.rec u3 2) a m n s i (app (at nil 1) b) x)", "(app (at n u3 2) a m n s x)", 1}, {"(app (at vec.rec u3 2) a m n s i (app cons b k h t) x y)", "(app (at s 2 u3) a m n s k h t x y)", 1}, {"(app (at vec.rec u3 2) a m n s i (app cons b k h))", "(app (at vec.rec u3 2) a m n s i (app cons b k h))", 0}, {"(app (at vec.rec u3 2) a m n s i (app cons b k h t t))", "(app (at vec.rec u3 2) a m n s i (app cons b k h t t))", 0}, {"(app (at vec.rec u3 2) a m n s i)", "(app (at vec.rec u3 2) a m n s i)", 0}, {"(app (at vec.rec 2) a m n s i (app nil b))", "(app (at vec.rec 2) a m n s i (app nil b))", 0},
	// No iota step; a major that is not reduced costs nothing.
	{"(app rec m z s one)", "(app rec m z s one)", 0}, {"(app (at rec 0 1) m z s one)", "(app (at rec 0 1) m z s one)", 0}, {"(app (at rec 0) m z s)", "(app (at rec 0) m z s)", 0}, {"(app minusrec m z s one)", "(app minusrec m z s one)", 0}, {"(app (at negparams 0) m z s one)", "(app (at negparams 0) m z s one)", 0}, {"(app (at negminors 0) m z s one)", "(app (at negminors 0) m z s one)", 0}, {"(app (at negindices 0) m z s one)", "(app (at negindices 0) m z s one)", 0}, {"(app (at fewer 0) m z s one)", "(app (at fewer 0) m z s one)", 0}, {"(app (at mixed 0) m z s one)", "(app (at mixed 0) m z s one)", 0}, {"(app (at wrapping 0) m z s one)", "(app (at wrapping 0) m z s one)", 0}, {"(app (at wrapping2 0) m z s one)", "(app (at wrapping2 0) m z s one)", 0},
	// No iota step; the major's fuel is spent, and it stays as it was.
	{"(app (at rec 0) m z s c)", "(app (at rec 0) m z s c)", 0}, {"(app (at rec 0) m z s (app (lam nat #0) c) d)", "(app (at rec 0) m z s (app (lam nat #0) c) d)", 1}, {"(app (at rec 0) m z s (let nat other (app (lam nat #1) c)))", "(app (at rec 0) m z s (let nat other (app (lam nat #1) c)))", 2}, {"(app (at rec 0) m z s other)", "(app (at rec 0) m z s other)", 0}, {"(app (at rec 0) m z s unruled)", "(app (at rec 0) m z s unruled)", 0}, {"(app (at rec 0) m z s axiom)", "(app (at rec 0) m z s axiom)", 0}, {"(app (at rec 0) m z s unknown)", "(app (at rec 0) m z s unknown)", 0}, {"(app (at rec 0) m z s nat)", "(app (at rec 0) m z s nat)", 0}, {"(app (at rec 0) m z s rec)", "(app (at rec 0) m z s rec)", 0}, {"(app (at rec 0) m z s (app zero c))", "(app (at rec 0) m z s (app zero c))", 0}, {"(app (at rec 0) m z s (app succ one one))", "(app (at rec 0) m z s (app succ one one))", 0}, {"(app (at rec 0) m z s succ)", "(app (at rec 0) m z s succ)", 0}, {"(app (at rec 0) m z s #0)", "(app (at rec 0) m z s #0)", 0}, {"(app (at rec 0) m z s (app one zero))", "(app (at rec 0) m z s (app one zero))", 1}, {"(app (at negfields 0) m z s one)", "(app (at negfields 0) m z s one)", 1}, {"(app (at paramsminusfields 0) p m z (let nat zero #0))", "(app (at paramsminusfields 0) p m z (let nat zero #0))", 1}, {"(app (at fieldful 0) m z s (let nat zero #0))", "(app (at fieldful 0) m z s (let nat zero #0))", 1},
	{"(app (at rec 0) m z s (app (at rec 0) m z s (app (at rec 0) m z s (app (lam nat #0) c))))", "(app (at rec 0) m z s (app (at rec 0) m z s (app (at rec 0) m z s (app (lam nat #0) c))))", 1}, {"(app (at rec 0) m z s (app (at rec 0) m c s one))", "(app (at rec 0) m z s (app (at rec 0) m c s one))", 6},
}

func TestP10_2Steps(t *testing.T) {
	e := rules()
	for _, x := range stepCases {
		for _, more := range []int{0, 1, 50} {
			got, left, err := Whnf(e, p(x.s), x.cost+more)
			is(t, x.s, got, left, err, p(x.want), more, api.OK)
		}
		for fuel := range x.cost {
			got, left, err := Whnf(e, p(x.s), fuel)
			is(t, x.s, got, left, err, api.Term{}, 0, api.ErrFuel)
		}
	}
}

func TestP10_2Fuel(t *testing.T) {
	e := rules()
	for _, x := range []struct {
		s               string
		fuel, left, err int
	}{
		{"c", math.MinInt, 0, 0}, {"c", -1, 0, 0}, {"c", 0, 0, 0}, {"c", 999999, 999999, 0}, {"c", 1000000, 1000000, 0}, {"c", 1000001, 1000000, 0}, {"c", math.MaxInt, 1000000, 0},
		{"one", math.MinInt, 0, 5}, {"one", -1, 0, 5}, {"one", math.MaxInt, 999999, 0}, {"loop", 7, 0, 5}, {"loop", math.MaxInt, 0, 5}, {"(app (at rec 0) m z s loop)", 9, 0, 5}, {"(app (lam a (app #0 #0)) (lam a (app #0 #0)))", 1000, 0, 5},
	} {
		want := api.Term{}
		if x.err == 0 {
			want, _, _ = Whnf(e, p(x.s), 9)
		}
		got, left, err := Whnf(e, p(x.s), x.fuel)
		is(t, fmt.Sprint(x), got, left, err, want, x.left, api.Errno(x.err))
		got, left, err = Normal(e, p(x.s), x.fuel)
		if x.s == "one" {
			want = p("(app succ zero)")
		}
		if err != api.OK {
			want = api.Term{}
		}
		is(t, fmt.Sprint("normal", x), got, left, err, want, x.left, api.Errno(x.err))
	}
}

// TestP10_2Leaves: terms that lack kids, or are of no kind, have no step, and
// are told by their kinds alone.
func TestP10_2Leaves(t *testing.T) {
	e := rules()
	one, c := cons("one"), cons("c")
	for _, x := range []struct{ t, want api.Term }{
		{node(api.TLam, one), node(api.TLam)}, {node(api.TLet, one, one), node(api.TLet)}, {node(api.TApp, one), node(api.TApp)}, {node(api.TPi, one), node(api.TPi)}, {node(9, one, one), node(9)}, {node(-1, one), node(-1)}, {api.Term{}, api.Term{}},
		{app(node(api.TLam, one), c), app(node(api.TLam), c)}, {app(node(api.TLet, one, one), c, c), app(node(api.TLet), c, c)}, {app(node(api.TApp, one), c), app(node(api.TApp), c)}, {app(node(0, one), c), app(node(0), c)},
		{app(cons("rec", num(0)), c, c, c, node(api.TApp, cons("zero"))), app(cons("rec", num(0)), c, c, c, node(api.TApp))},
	} {
		for _, f := range []func(*Env, api.Term, int) (api.Term, int, api.Errno){Whnf, Normal} {
			got, left, err := f(e, x.t, 5)
			is(t, show(x.t), got, left, err, x.want, 5, api.OK)
		}
	}
	// Within a body they are no places, and take nothing.
	got, left, err := Whnf(e, app(node(api.TLam, c, app(node(api.TLam, vari(0)), vari(0), node(7, vari(0)))), c), 5)
	is(t, "in a body", got, left, err, app(node(api.TLam), c, node(7)), 4, api.OK)
	big := ofSize(3989, c)
	got, left, err = Whnf(e, app(node(api.TLam, c, app(c, node(api.TLam, vari(0)), node(api.TPi, vari(0)), node(9, vari(0)))), big), 5)
	is(t, "no places", got, left, err, app(c, node(api.TLam), node(api.TPi), node(9)), 4, api.OK)
}

func TestR6FieldsWithoutMeaning(t *testing.T) {
	junk := func(kind int, kids ...api.Term) api.Term {
		return api.Term{Kind: kind, N: 3, Name: "n", Level: num(7), Levels: []api.Level{lvar(0)}, Kids: kids}
	}
	v := func(n int) api.Term {
		t := junk(api.TVar, cons("one"))
		t.N = n
		return t
	}
	one, odd := junk(api.TConst, vari(9)), junk(api.TSort, vari(9))
	one.Name, one.Levels = "one", nil
	odd.Level = api.Level{Kind: api.LMax, N: 5, Kids: []api.Level{num(1), {Kind: api.LNum, N: 2}}}
	plain := sort(api.Level{Kind: api.LMax, Kids: []api.Level{num(1), num(2)}})
	e := rules()
	for i, x := range []struct {
		t, want api.Term
		cost    int
	}{
		{v(3), vari(3), 0}, {odd, plain, 0}, {junk(8, one), node(8), 0}, {junk(api.TPi, odd, v(3), one), node(api.TPi, plain, vari(3)), 0}, {junk(api.TLam, v(2), odd, one), node(api.TLam, vari(2), plain), 0},
		{junk(api.TApp, junk(api.TLam, one, v(0), one), odd, one), plain, 1}, {junk(api.TLet, one, odd, v(0), one), plain, 1}, {junk(api.TApp, junk(api.TLam, one, v(1), one), odd, one), vari(0), 1}, {one, app(cons("succ"), cons("zero")), 1}, {junk(api.TApp, v(3), odd, one), app(vari(3), plain), 0},
	} {
		for j, f := range []func(*Env, api.Term, int) (api.Term, int, api.Errno){Whnf, Normal} {
			got, left, err := f(e, x.t, 9)
			is(t, fmt.Sprint(i, j), got, left, err, x.want, 9-x.cost, api.OK)
		}
	}
	// So it is in a definition's value and in a rule's body.
	f := New([]api.Global{{Kind: api.GDef, Name: "d", Value: junk(api.TLam, odd, v(3), one)}, {Kind: api.GCtor, Name: "k"}, {Kind: api.GRec, Name: "r", Rules: []api.Rule{{Ctor: "k", Body: junk(api.TPi, odd, v(3), one)}}}})
	got, left, err := Whnf(f, cons("d"), 9)
	is(t, "value", got, left, err, node(api.TLam, sort(num(2)), vari(3)), 8, api.OK)
	got, left, err = Whnf(f, app(cons("r"), one, cons("k")), 9)
	is(t, "rule", got, left, err, app(node(api.TPi, sort(num(2)), vari(3)), cons("one")), 8, api.OK)
	d, _ := f.Find("d")
	is(t, "found", d.Value, 0, 0, node(api.TLam, plain, vari(3)), 0, 0)
	r, _ := f.Find("r")
	is(t, "found", r.Rules[0].Body, 0, 0, node(api.TPi, plain, vari(3)), 0, 0)
}

// sizeEnv has one definition and one recursor whose rule is of this size.
func sizeEnv(n int) *Env {
	body := ofSize(n, cons("c"))
	return New([]api.Global{{Kind: api.GDef, Name: "d", Value: body}, {Kind: api.GCtor, Name: "k", Ind: "i"}, {Kind: api.GRec, Name: "r", Ind: "i", Rules: []api.Rule{{Ctor: "k", Body: body}}}})
}

func TestP10_2TooGreat(t *testing.T) {
	c, a0, a1 := cons("c"), vari(0), vari(1)
	lam := func(b api.Term) api.Term { return node(api.TLam, c, b) }
	let := func(v, b api.Term) api.Term { return node(api.TLet, c, v, b) }
	for i, x := range []struct {
		e  *Env
		t  api.Term
		ok bool
	}{
		// beta: 2 places; 1 beneath a binder and 1 that is none.
		{nil, app(lam(app(a0, a0)), ofSize(1999, c)), true}, {nil, app(lam(app(a0, a0)), ofSize(2001, c)), false},
		{nil, app(lam(app(a0, a0)), ofSize(1997, c), c), true}, {nil, app(lam(app(a0, a0)), ofSize(1999, c), c), false},
		{nil, app(lam(app(a0, a0)), ofSize(1001, c), ofSize(1993, c)), true}, {nil, app(lam(app(a0, a0)), ofSize(1001, c), ofSize(1997, c)), false},
		{nil, app(lam(lam(app(a1, a0, a1))), ofSize(1997, c)), true}, {nil, app(lam(lam(app(a1, a0, a1))), ofSize(1999, c)), false},
		{nil, app(lam(node(api.TPi, a0, a1)), ofSize(1999, c)), true}, {nil, app(lam(node(api.TPi, a0, a1)), ofSize(2001, c)), false}, {nil, app(lam(node(api.TPi, a1, a0)), ofSize(3993, c)), true},
		{nil, app(lam(c), ofSize(3995, c)), true}, {nil, app(lam(lam(ofSize(1001, a0))), ofSize(101, c)), true}, {nil, app(lam(app(c, node(api.TLet, a0, a0, a1))), ofSize(1331, c)), true}, {nil, app(lam(app(c, node(api.TLet, a0, a0, a1))), ofSize(1333, c)), false},
		{nil, app(lam(ofSize(1999, a0)), ofSize(1997, c)), false},
		// Just 4000 nodes, and one more.
		{nil, app(lam(app(c, node(api.TLet, a0, a0, c))), let(c, ofSize(1995, c))), true}, {nil, app(lam(app(c, a0, a0)), ofSize(1999, c)), false},
		// zeta
		{nil, let(ofSize(1999, c), app(a0, a0)), true}, {nil, let(ofSize(2001, c), app(a0, a0)), false}, {nil, app(let(ofSize(1997, c), app(a0, a0)), c), true}, {nil, app(let(ofSize(1999, c), app(a0, a0)), c), false}, {nil, let(app(a0, a0), ofSize(2001, a0)), false},
		// delta
		{sizeEnv(3999), cons("d"), true}, {sizeEnv(4001), cons("d"), false}, {sizeEnv(20001), cons("d"), false}, {sizeEnv(3997), app(cons("d"), c), true}, {sizeEnv(3999), app(cons("d"), c), false}, {sizeEnv(1999), app(cons("d"), ofSize(1999, c)), true}, {sizeEnv(1999), app(cons("d"), ofSize(2001, c)), false},
		// iota
		{sizeEnv(3997), app(cons("r"), c, cons("k")), true}, {sizeEnv(3999), app(cons("r"), c, cons("k")), false}, {sizeEnv(20001), app(cons("r"), c, cons("k")), false}, {sizeEnv(3995), app(cons("r"), c, cons("k"), c), true}, {sizeEnv(3997), app(cons("r"), c, cons("k"), c), false},
	} {
		got, left, err := Whnf(x.e, x.t, 9)
		switch {
		case x.ok && (err != api.OK || left != 8):
			t.Error(i, err, left)
		case !x.ok:
			is(t, fmt.Sprint(i), got, left, err, api.Term{}, 8, api.ErrSize)
		}
		// A step is paid ahead of its size.
		if got, left, err := Whnf(x.e, x.t, 0); err != api.ErrFuel || left != 0 || got.Kind != 0 {
			t.Error(i, err, left)
		}
	}
}

// TestP10_2GreatFromOutside: what is handed in too great is so for no fuel.
func TestP10_2GreatFromOutside(t *testing.T) {
	c := cons("c")
	deep := c
	for range 2000 {
		deep = app(c, deep)
	}
	for _, x := range []struct {
		t  api.Term
		ok bool
	}{{ofSize(3999, c), true}, {node(api.TLet, c, c, ofSize(3997, c)), true}, {node(api.TLet, c, c, ofSize(3999, c)), false}, {ofSize(4001, c), false}, {ofSize(19999, c), false}, {ofSize(20001, c), false}, {deep, false}, {deep.Kids[1], true}, {app(node(api.TLam, c, c), ofSize(4001, c)), false}} {
		for _, fuel := range [][2]int{{-3, 0}, {0, 0}, {7, 7}, {math.MaxInt, 1000000}} {
			for i, f := range []func(*Env, api.Term, int) (api.Term, int, api.Errno){Whnf, Normal} {
				got, left, err := f(nil, x.t, fuel[0])
				if !x.ok {
					is(t, fmt.Sprint(i, fuel), got, left, err, api.Term{}, fuel[1], api.ErrSize)
				} else if err == api.ErrSize {
					t.Error(i, fuel)
				}
			}
		}
	}
}

// TestP10_2Major: of a major's reduction, its own size alone counts; its
// errors are the whole's.
func TestP10_2Major(t *testing.T) {
	c := cons("c")
	rec := func(major api.Term, rest ...api.Term) api.Term {
		return app(app(cons("rec", num(0)), c, c, c, major), rest...)
	}
	grown := func(n int) api.Term { return app(node(api.TLam, c, app(vari(0), vari(0))), ofSize(n, c)) }
	e := rules()
	stuck := rec(grown(1999), ofSize(1983, c))
	got, left, err := Whnf(e, stuck, 9)
	is(t, "stuck", got, left, err, stuck, 8, api.OK)
	got, left, err = Whnf(e, rec(grown(2001)), 9)
	is(t, "too great", got, left, err, api.Term{}, 8, api.ErrSize)
	got, left, err = Whnf(e, rec(rec(rec(grown(2001)))), 1)
	is(t, "too great within", got, left, err, api.Term{}, 0, api.ErrSize)
	got, left, err = Whnf(e, rec(cons("loop")), 9)
	is(t, "loop", got, left, err, api.Term{}, 0, api.ErrFuel)
}

func TestP10_3Normal(t *testing.T) {
	e := rules()
	for _, x := range []struct {
		s, want string
		cost    int
	}{
		{"c", "c", 0}, {"#3", "#3", 0}, {"(sort (max 1 u0))", "(sort (max 1 u0))", 0}, {"one", "(app succ zero)", 1}, {"two", "(app succ (app succ zero))", 2}, {"(lam one two)", "(lam (app succ zero) (app succ (app succ zero)))", 3}, {"(pi (app (lam a #0) b) (app c one))", "(pi b (app c (app succ zero)))", 2},
		{"(app (lam nat (app c #0 #0)) (app (lam nat #0) d))", "(app c d d)", 3}, {"(app (pi one (app #0 one)) one d)", "(app (pi (app succ zero) (app #0 (app succ zero))) (app succ zero) d)", 3}, {"(app c (lam nat (app (lam nat #1) #0)))", "(app c (lam nat #0))", 1}, {"(let one c (pi #0 (let two d #2)))", "(pi c c)", 2}, {"(app (sort 0) one)", "(app (sort 0) (app succ zero))", 1}, {"(app #2 one)", "(app #2 (app succ zero))", 1}, {"(app id one)", "(app id (app succ zero))", 1},
		{"(app (at rec 0) one one one (app (lam nat #0) c))", "(app (at rec 0) (app succ zero) (app succ zero) (app succ zero) c)", 5}, {"(app (at rec 0) m z (app (lam a #0) s))", "(app (at rec 0) m z s)", 1}, {"(app add one two)", "(app succ (app succ (app succ zero)))", 17},
		{"(app (at rec 0) one z s one)", "(app s zero z)", 10}, {"(lam nat (app add #0 one))", "(lam nat (app (at rec 0) m (app succ zero) (lam nat (lam nat (app succ #0))) #0))", 4},
	} {
		for _, more := range []int{0, 1, 50} {
			got, left, err := Normal(e, p(x.s), x.cost+more)
			is(t, x.s, got, left, err, p(x.want), more, api.OK)
		}
		for fuel := range x.cost {
			got, left, err := Normal(e, p(x.s), fuel)
			is(t, x.s, got, left, err, api.Term{}, 0, api.ErrFuel)
		}
	}
}

// TestP10_3TooGreat: which nodes are counted when.
func TestP10_3TooGreat(t *testing.T) {
	e := New([]api.Global{def("lams", "(lam a lams)"), def("pis", "(pi pis a)"), def("apps", "(app c c apps)"), def("heads", "(app (pi a heads) b)"), def("one", "c"), def("five", "(app c c c)"), def("loop", "loop")})
	c := cons("c")
	most := 1000000
	for _, x := range []struct {
		t    api.Term
		left int
		err  api.Errno
	}{
		// 2 nodes a turn; 1, going down at the left; 4; 4 of which 1 is behind.
		{cons("lams"), most - 2001, api.ErrSize}, {cons("pis"), most - 4001, api.ErrSize}, {cons("apps"), most - 1001, api.ErrSize}, {cons("heads"), most - 1334, api.ErrSize},
		// 3999 nodes, or 4001.
		{app(c, ofSize(3989, c), cons("five"), c), most - 1, api.OK}, {app(c, ofSize(3991, c), cons("five"), c), most - 1, api.ErrSize}, {app(c, ofSize(3991, c), c, cons("five")), most - 1, api.ErrSize},
		// An application's own nodes stand at once; what is on its left counts
		// ahead of its right.
		{app(c, cons("one"), ofSize(3993, c), cons("five")), most - 2, api.ErrSize}, {app(c, ofSize(3993, c), cons("five"), cons("loop")), most - 1, api.ErrSize}, {app(c, cons("loop"), ofSize(3991, c), cons("five")), 0, api.ErrFuel}, {node(api.TLet, c, cons("five"), node(api.TPi, ofSize(3993, c), vari(1))), most - 2, api.OK},
		{node(api.TPi, ofSize(3993, c), cons("five")), most - 1, api.OK}, {node(api.TPi, ofSize(3995, c), cons("five")), most - 1, api.ErrSize}, {node(api.TPi, cons("five"), ofSize(3993, c)), most - 1, api.OK}, {node(api.TPi, cons("five"), ofSize(3995, c)), most - 1, api.ErrSize},
	} {
		got, left, err := Normal(e, x.t, math.MaxInt)
		if left != x.left || err != x.err || (err == api.OK) != (got.Kind != 0) {
			t.Errorf("%.40s: %d %d", show(x.t), left, err)
		}
	}
	// The whnf of a node is paid ahead of its counting.
	got, left, err := Normal(e, app(c, ofSize(3995, c), cons("one")), 0)
	is(t, "no fuel", got, left, err, api.Term{}, 0, api.ErrFuel)
	got, left, err = Normal(e, cons("lams"), 2000)
	is(t, "no fuel for the last", got, left, err, api.Term{}, 0, api.ErrFuel)
	got, left, err = Normal(e, cons("lams"), 2001)
	is(t, "fuel for the last", got, left, err, api.Term{}, 0, api.ErrSize)
}
