package whnf

import (
	"fmt"
	"math/rand"
	"testing"

	"assize/api"
	"assize/level"
	"assize/term"
)

// plain reduces as the document's words say, one after the other, by recursion
// and with copies of everything. What it can't do it tells by a panic with the
// errno.
type plain struct {
	globals []api.Global
	fuel    int
}

func (p *plain) find(t api.Term, kind int) *api.Global {
	for i, g := range p.globals {
		if t.Kind == api.TConst && g.Name == t.Name {
			if g.Kind != kind {
				return nil
			}
			return &p.globals[i]
		}
	}
	return nil
}

func (p *plain) pay() {
	if p.fuel == 0 {
		panic(api.ErrFuel)
	}
	p.fuel--
}

func checked(t api.Term) api.Term {
	if n := term.Size(t); n == 0 || n > api.MaxGrown {
		panic(api.ErrSize)
	}
	return t
}

// putIn is term.Inst, which tells nothing of what is far too great: how much it
// would be is told by what 1 and 3 nodes in the place of the variable make.
func putIn(t, v api.Term) api.Term {
	c := cons("c")
	times := (term.Size(term.Inst(t, app(c, c))) - term.Size(term.Inst(t, c))) / 2
	if term.Size(t)+times*(term.Size(v)-1) > api.MaxGrown {
		panic(api.ErrSize)
	}
	return term.Inst(t, v)
}

func has(t api.Term, kind int) bool {
	return t.Kind == kind && len(t.Kids) >= map[int]int{api.TLam: 2, api.TPi: 2, api.TLet: 3}[kind]
}

// step tells t behind one step, or false.
func (p *plain) step(t api.Term) (api.Term, bool) {
	head, args := term.Spine(t)
	if has(head, api.TLam) && len(args) > 0 {
		p.pay()
		return checked(term.Apps(putIn(head.Kids[1], args[0]), args[1:]...)), true
	}
	if has(head, api.TLet) {
		p.pay()
		return checked(term.Apps(putIn(head.Kids[2], head.Kids[1]), args...)), true
	}
	if d := p.find(head, api.GDef); d != nil && d.Vars == len(head.Levels) {
		p.pay()
		return checked(term.Apps(term.InstLevels(checked(d.Value), head.Levels), args...)), true
	}
	r := p.find(head, api.GRec)
	if r == nil || r.Vars != len(head.Levels) || r.Params < 0 || r.Minors < 0 || r.Indices < 0 {
		return t, false
	}
	m := r.Params + 1 + r.Minors + r.Indices
	if len(args) <= m {
		return t, false
	}
	con, fields := term.Spine(p.whnf(args[m]))
	c := p.find(con, api.GCtor)
	if c == nil || c.Ind != r.Ind {
		return t, false
	}
	for _, rule := range r.Rules {
		if rule.Ctor == c.Name {
			if rule.Fields < 0 || len(fields) != r.Params+rule.Fields {
				return t, false
			}
			p.pay()
			out := term.InstLevels(checked(rule.Body), head.Levels)
			out = term.Apps(out, args[:r.Params+1+r.Minors]...)
			out = term.Apps(out, fields[r.Params:]...)
			return checked(term.Apps(out, args[m+1:]...)), true
		}
	}
	return t, false
}

func (p *plain) whnf(t api.Term) api.Term {
	for {
		next, ok := p.step(t)
		if !ok {
			return t
		}
		t = next
	}
}

// normal tells t normal; count is how many nodes of the outcome stand.
func (p *plain) normal(t api.Term, count *int) api.Term {
	head, args := term.Spine(p.whnf(t))
	*count += 1 + len(args)
	if *count > api.MaxGrown {
		panic(api.ErrSize)
	}
	for i := range head.Kids {
		head.Kids[i] = p.normal(head.Kids[i], count)
	}
	for i := range args {
		args[i] = p.normal(args[i], count)
	}
	return term.Apps(head, args...)
}

// of tells what f makes of t with so much fuel, as Whnf and Normal do.
func (p *plain) of(t api.Term, fuel int, f func(api.Term) api.Term) (out api.Term, left int, e api.Errno) {
	p.fuel = fuel
	defer func() {
		if x := recover(); x != nil {
			out, left, e = api.Term{}, p.fuel, x.(api.Errno)
		}
	}()
	return f(term.Lift(t, 0, 0)), p.fuel, api.OK
}

// maker makes terms and environments by chance.
type maker struct {
	*rand.Rand
	names []string
}

func (m maker) level(vars int) api.Level {
	l := num(m.Intn(3))
	for i := range m.Intn(3) {
		if vars > 0 {
			l = level.Max(level.Plus(i, lvar(m.Intn(vars))), l)
		}
	}
	return l
}

func (m maker) levels(n, vars int) []api.Level {
	var ls []api.Level
	for range n {
		ls = append(ls, m.level(vars))
	}
	return ls
}

// constant is one that mostly has as many levels as its name takes: the digit
// that the name ends with.
func (m maker) constant(vars int) api.Term {
	name := m.names[m.Intn(len(m.names))]
	n := int(name[len(name)-1] - '0')
	if m.Intn(20) == 0 {
		n = m.Intn(3)
	}
	return cons(name, m.levels(n, vars)...)
}

func (m maker) term(deep, vars int) api.Term {
	kid := func() api.Term { return m.term(deep-1, vars) }
	if deep == 0 {
		if m.Intn(2) == 0 {
			return m.constant(vars)
		}
		return vari(m.Intn(4))
	}
	switch m.Intn(16) {
	case 0:
		return m.constant(vars)
	case 1:
		return sort(m.level(vars))
	case 2:
		return node(api.TPi, kid(), kid())
	case 3, 4:
		return node(api.TLam, kid(), kid())
	case 5:
		return node(api.TLet, kid(), kid(), kid())
	case 6, 7:
		return app(node(api.TLam, kid(), kid()), kid())
	case 8:
		return []api.Term{node(api.TLam, kid()), node(api.TApp, kid()), node(api.TLet, kid(), kid()), node(9), vari(-1), node(api.TPi, kid(), kid(), kid())}[m.Intn(6)]
	case 9, 10:
		return app(m.constant(vars), kid(), kid())
	case 11, 12, 13: // a recursor, mostly with all that it takes
		name, n := "rec1", 4
		if m.Intn(3) == 0 {
			name, n = "vec2", 6
		}
		t := cons(name, m.levels(int(name[3]-'0'), vars)...)
		for range n - 1 + m.Intn(8)/7 {
			t = app(t, m.term(deep/3, vars))
		}
		return app(t, m.value(deep-1, vars))
	}
	return app(kid(), kid())
}

// value is mostly a constructor with its arguments, of one of two types.
func (m maker) value(deep, vars int) api.Term {
	kid := func() api.Term { return m.term(max(deep-1, 0), vars) }
	switch m.Intn(6) {
	case 0:
		return cons("zero0")
	case 1:
		return app(cons("succ0"), m.value(max(deep-1, 0), vars))
	case 2:
		return app(cons("nil0"), kid())
	case 3:
		return app(cons("cons0"), kid(), kid(), kid())
	case 4:
		return app(node(api.TLam, kid(), vari(0)), cons("zero0"))
	}
	return kid()
}

// globals is an environment whose names end with how many levels they take.
func (m maker) globals() []api.Global {
	l := []api.Global{
		{Kind: api.GCtor, Name: "zero0", Ind: "nat"}, {Kind: api.GCtor, Name: "succ0", Ind: "nat", Fields: 1}, {Kind: api.GCtor, Name: "nil0", Ind: "vec", Params: 1}, {Kind: api.GCtor, Name: "cons0", Ind: "vec", Params: 1, Fields: 2}, {Kind: api.GAxiom, Name: "axiom0"},
		{Kind: api.GRec, Name: "rec1", Vars: 1, Ind: "nat", Minors: 2, Rules: []api.Rule{{Ctor: "zero0", Body: p("(lam a (lam a (lam a #1)))")}, {Ctor: "succ0", Fields: 1, Body: p("(lam a (lam a (lam a (lam nat (app #1 #0 (app (at rec1 u0) #3 #2 #1 #0))))))")}}},
		{Kind: api.GRec, Name: "vec2", Vars: 2, Ind: "vec", Params: 1, Minors: 2, Indices: 1, Rules: []api.Rule{{Ctor: "nil0", Body: m.term(3, 2)}, {Ctor: "cons0", Fields: 2, Body: m.term(3, 2)}}},
	}
	for i := range 4 {
		vars := m.Intn(3)
		l = append(l, api.Global{Kind: api.GDef, Name: fmt.Sprint("d", i, "x", vars), Vars: vars})
	}
	for i, g := range l {
		if g.Kind == api.GDef { // of those ahead of it: most end
			l[i].Value = m.term(3, g.Vars)
		}
	}
	return l
}

func (m maker) withNames(l []api.Global) maker {
	m.names = []string{"unknown0"}
	for _, g := range l {
		m.names = append(m.names, g.Name)
	}
	return m
}

// samples makes 20 terms in each of so many environments, and hands each to f.
func samples(seed int64, envs int, f func(r *rand.Rand, l []api.Global, e *Env, t api.Term)) {
	m := maker{Rand: rand.New(rand.NewSource(seed)), names: []string{"axiom0", "zero0", "succ0", "d0x0", "d1x1", "rec1"}}
	for range envs {
		l := m.globals()
		e, n := New(l), m.withNames(l)
		for range 20 {
			f(m.Rand, l, e, n.term(5, 2))
		}
	}
}

func TestP10_2AsTheWordsSay(t *testing.T) {
	count := map[api.Errno]int{}
	samples(1, 200, func(r *rand.Rand, l []api.Global, e *Env, x api.Term) {
		fuel := []int{0, 1, 3, 10, 60, 300}[r.Intn(6)]
		m := &plain{globals: l}
		want, wantLeft, wantE := m.of(x, fuel, m.whnf)
		got, left, err := Whnf(e, x, fuel)
		is(t, show(x), got, left, err, want, wantLeft, wantE)
		count[err]++
		if fuel-left > 5 && err == api.OK {
			count[99]++
		}
	})
	if count[api.OK] < 1000 || count[api.ErrFuel] < 100 || count[99] < 50 {
		t.Error(count)
	}
}

func TestP10_3AsTheWordsSay(t *testing.T) {
	count := map[api.Errno]int{}
	samples(2, 100, func(r *rand.Rand, l []api.Global, e *Env, x api.Term) {
		fuel := []int{0, 1, 10, 60, 400}[r.Intn(5)]
		m := &plain{globals: l}
		nodes := 0
		want, wantLeft, wantE := m.of(x, fuel, func(t api.Term) api.Term { return m.normal(t, &nodes) })
		got, left, err := Normal(e, x, fuel)
		is(t, show(x), got, left, err, want, wantLeft, wantE)
		count[err]++
		if fuel-left > 5 && err == api.OK {
			count[99]++
		}
	})
	if count[api.OK] < 500 || count[api.ErrFuel] < 200 || count[api.ErrSize] < 3 || count[99] < 50 {
		t.Error(count)
	}
}

// TestP10_4Laws: what follows of fuel and of terms that have no step.
func TestP10_4Laws(t *testing.T) {
	samples(3, 60, func(r *rand.Rand, l []api.Global, e *Env, x api.Term) {
		const fuel = 150
		for i, f := range []func(*Env, api.Term, int) (api.Term, int, api.Errno){Whnf, Normal} {
			got, left, err := f(e, x, fuel)
			if err != api.OK {
				continue
			}
			more := r.Intn(1000)
			again, leftMore, err := f(e, x, fuel+more)
			is(t, "more fuel", again, leftMore, err, got, left+more, api.OK)
			again, leftMore, err = f(e, x, fuel-left)
			is(t, "just as much fuel", again, leftMore, err, got, 0, api.OK)
			if left < fuel {
				again, leftMore, err = f(e, x, r.Intn(fuel-left))
				is(t, "less fuel", again, leftMore, err, api.Term{}, 0, api.ErrFuel)
			}
			again, leftMore, err = Whnf(e, got, fuel)
			if i == 0 {
				leftMore = fuel // a stuck major may spend some
			}
			is(t, "whnf of it", again, leftMore, err, got, fuel, api.OK)
			if i == 1 {
				again, leftMore, err = f(e, got, 0)
				is(t, "normal of it", again, leftMore, err, got, 0, api.OK)
			}
		}
	})
}

// TestP10_4NoStep: a term that has no step stays as it is, and costs nothing
// but what its major spends.
func TestP10_4NoStep(t *testing.T) {
	samples(4, 200, func(r *rand.Rand, l []api.Global, e *Env, x api.Term) {
		m := &plain{globals: l}
		stays := func(t api.Term) api.Term {
			next, ok := m.step(t)
			if ok {
				panic(api.ErrState)
			}
			return next
		}
		want, wantLeft, err := m.of(x, 100, stays)
		if err != api.OK {
			return
		}
		got, left, err := Whnf(e, x, 100)
		is(t, show(x), got, left, err, want, wantLeft, api.OK)
		is(t, show(x), got, 0, 0, term.Lift(x, 0, 0), 0, 0)
	})
}
