package whnf

import (
	"fmt"
	"math"
	"math/rand"
	"testing"

	"assize/api"
	"assize/term"
)

// memory notes where each list of what it is shown begins, with what lies
// behind its length.
type memory struct {
	terms  map[*api.Term]bool
	levels map[*api.Level]bool
	rules  map[*api.Rule]bool
	names  map[*string]bool
	twice  bool
}

func newMemory() *memory {
	return &memory{terms: map[*api.Term]bool{}, levels: map[*api.Level]bool{}, rules: map[*api.Rule]bool{}, names: map[*string]bool{}}
}

// noted notes a list, and what was noted ahead.
func noted[T any](m *memory, seen map[*T]bool, l []T) {
	all := l[:cap(l)]
	for i := range all {
		m.twice = m.twice || seen[&all[i]]
		seen[&all[i]] = true
	}
}

func (m *memory) level(l api.Level) {
	noted(m, m.levels, l.Kids)
	for _, k := range l.Kids {
		m.level(k)
	}
}

func (m *memory) term(t api.Term) {
	noted(m, m.terms, t.Kids)
	noted(m, m.levels, t.Levels)
	m.level(t.Level)
	for _, l := range t.Levels {
		m.level(l)
	}
	for _, k := range t.Kids {
		m.term(k)
	}
}

func (m *memory) global(g api.Global) {
	m.term(g.Type)
	m.term(g.Value)
	noted(m, m.names, g.Ctors)
	noted(m, m.rules, g.Rules)
	for _, r := range g.Rules {
		m.term(r.Body)
	}
}

// shares tells whether m and n have noted some list both.
func (m *memory) shares(n *memory) bool {
	return meet(m.terms, n.terms) || meet(m.levels, n.levels) || meet(m.rules, n.rules) || meet(m.names, n.names)
}

func meet[T any](a, b map[*T]bool) bool {
	for x := range a {
		if b[x] {
			return true
		}
	}
	return false
}

// within is what e keeps.
func within(e *Env) *memory {
	m := newMemory()
	for _, g := range e.globals {
		m.global(g)
	}
	return m
}

// roomy tells a copy of t whose lists have something behind their lengths.
func roomy(t api.Term) api.Term {
	kids := make([]api.Term, 0, len(t.Kids)+2)
	for _, k := range t.Kids {
		kids = append(kids, roomy(k))
	}
	kids = append(kids, cons("one"), cons("behind"))
	levels := append(append(make([]api.Level, 0, len(t.Levels)+1), t.Levels...), num(77))
	t.Kids, t.Levels = kids[:len(t.Kids)], levels[:len(t.Levels)]
	return t
}

func TestR2Reduction(t *testing.T) {
	samples(5, 60, func(r *rand.Rand, l []api.Global, e *Env, x api.Term) {
		x = roomy(x)
		in := newMemory()
		in.term(x)
		before := show(x) + show(node(0, x.Kids[:cap(x.Kids)]...))
		for i, f := range []func(*Env, api.Term, int) (api.Term, int, api.Errno){Whnf, Normal} {
			got, _, _ := f(e, x, 100)
			m := newMemory()
			m.term(got)
			if m.twice || m.shares(in) || m.shares(within(e)) {
				t.Fatal(i, m.twice, show(x))
			}
		}
		if show(x)+show(node(0, x.Kids[:cap(x.Kids)]...)) != before {
			t.Fatal("what was handed in has changed")
		}
	})
}

// TestR2Shared: one list in two places of what is handed in.
func TestR2Shared(t *testing.T) {
	both := app(cons("f", api.Level{Kind: api.LMax, Kids: []api.Level{num(1), lvar(0)}}), vari(0))
	x := app(node(api.TLam, both, app(both, both, vari(0), vari(0))), both)
	e := New([]api.Global{{Kind: api.GDef, Name: "d", Value: app(both, both), Type: app(both, both)}})
	for i, f := range []func(*Env, api.Term, int) (api.Term, int, api.Errno){Whnf, Normal} {
		for _, x := range []api.Term{x, app(cons("d"), x, x)} {
			got, _, err := f(e, x, 9)
			m := newMemory()
			m.term(got)
			if m.twice || err != api.OK {
				t.Error(i, m.twice, err)
			}
		}
	}
	d, _ := e.Find("d")
	m := newMemory()
	m.global(d)
	if m.twice {
		t.Error("two lists of one answer share memory")
	}
}

func TestR2Env(t *testing.T) {
	l := full()
	given := newMemory()
	for i := range l {
		l[i].Type, l[i].Value = roomy(l[i].Type), roomy(l[i].Value)
		l[i].Ctors = append(append(make([]string, 0, 9), l[i].Ctors...), "behind")[:len(l[i].Ctors)]
		given.global(l[i])
	}
	before := fmt.Sprintf("%+v", l)
	e := New(l)
	f := New(nil).With(l...)
	told := newMemory()
	tell := func(e *Env) {
		for g := range e.All() {
			told.global(g)
			found, _ := e.Find(g.Name)
			told.global(found)
		}
	}
	tell(e)
	tell(f)
	if told.twice || told.shares(given) || told.shares(within(e)) || told.shares(within(f)) || within(e).shares(given) || within(f).shares(given) || within(e).shares(within(f)) {
		t.Error("memory is shared")
	}
	if fmt.Sprintf("%+v", l) != before {
		t.Error("what was handed in has changed")
	}
	for g := range e.All() {
		spoil(g)
	}
	g, _ := e.Find("n3")
	spoil(g)
	for i := range l {
		spoil(l[i])
		l[i] = api.Global{}
	}
	if fmt.Sprintf("%+v", list(e)) != before || fmt.Sprintf("%+v", list(f)) != before {
		t.Error("what is kept has changed")
	}
}

// spoil changes what g's lists hold.
func spoil(g api.Global) {
	for _, t := range []api.Term{g.Type, g.Value} {
		for i := range t.Kids {
			t.Kids[i] = cons("spoilt")
		}
	}
	for i, r := range g.Rules {
		for j := range r.Body.Kids {
			r.Body.Kids[j] = cons("spoilt")
		}
		g.Rules[i], g.Ctors[i] = api.Rule{}, "spoilt"
	}
}

// doubled tells a term with 2^n places for t.
func doubled(n int, t api.Term) api.Term {
	for range n {
		t = app(t, t)
	}
	return t
}

// endless tells terms that are their own kids, or far greater than memory.
func endless() []api.Term {
	out := []api.Term{doubled(60, vari(0)), node(api.TLam, doubled(60, vari(0)), vari(0))}
	for _, kind := range []int{api.TPi, api.TLam, api.TLet, api.TApp} {
		kids := make([]api.Term, 3)
		for i := range kids {
			kids[i] = api.Term{Kind: kind, Kids: kids}
		}
		out = append(out, kids[0])
	}
	up := make([]api.Level, 2)
	up[0] = api.Level{Kind: api.LMax, Kids: up}
	up[1] = api.Level{Kind: api.LSucc, N: 1, Kids: up[:1]}
	return append(out, sort(up[0]), cons("x", up...))
}

func TestR3Ends(t *testing.T) {
	c := cons("c")
	for i, x := range endless() {
		e := New([]api.Global{{Kind: api.GDef, Name: "x", Vars: len(x.Levels), Value: x, Type: x}, {Kind: api.GCtor, Name: "k"}, {Kind: api.GRec, Name: "r", Rules: []api.Rule{{Ctor: "k", Body: x}}}})
		e.Find("x")
		for range e.All() {
		}
		for _, y := range []api.Term{x, app(x, c), app(c, x), cons("x", x.Levels...), app(cons("r"), c, cons("k")), app(cons("r"), c, x), app(node(api.TLam, c, x), c)} {
			for _, fuel := range []int{-1, 0, 50} {
				for _, f := range []func(*Env, api.Term, int) (api.Term, int, api.Errno){Whnf, Normal} {
					if got, left, err := f(e, y, fuel); left < 0 || left > max(fuel, 0) || err != api.OK && got.Kind != 0 {
						t.Error(i, left, err)
					}
				}
			}
		}
	}
	for _, n := range []int{math.MinInt, -1, 0, 1, math.MaxInt} {
		for _, m := range []int{math.MinInt, -1, 0, 1, math.MaxInt} {
			for _, k := range []int{math.MinInt, -1, 0, 1, math.MaxInt} {
				e := New([]api.Global{{Kind: api.GCtor, Name: "k", Params: m, Fields: n}, {Kind: api.GRec, Name: "r", Params: n, Minors: m, Indices: k, Rules: []api.Rule{{Ctor: "k", Fields: k, Body: c}}}})
				for args := range 5 {
					x := cons("r")
					for range args {
						x = app(x, cons("k"))
					}
					Whnf(e, x, n)
					Normal(e, x, m)
				}
			}
		}
	}
}

// TestR3DeepMajors: majors within majors, as deep as there is fuel.
func TestR3DeepMajors(t *testing.T) {
	e := rules().With(def("down", "(app (at rec 0) m z s down)"), def("under", "(app (at rec 0) m z s (lam a under))"))
	got, left, err := Whnf(e, cons("down"), math.MaxInt)
	is(t, "down", got, left, err, api.Term{}, 0, api.ErrFuel)
	got, left, err = Whnf(e, cons("under"), 5)
	is(t, "under", got, left, err, p("(app (at rec 0) m z s (lam a under))"), 4, api.OK)
	got, left, err = Normal(e, cons("down"), 100000)
	is(t, "normal down", got, left, err, api.Term{}, 0, api.ErrFuel)
	deep := cons("zero")
	for range 300 {
		deep = term.Apps(cons("rec", num(0)), cons("m"), cons("zero"), cons("s"), deep)
	}
	got, left, err = Whnf(e, deep, 1200)
	is(t, "deep", got, left, err, cons("zero"), 0, api.OK)
}
