package whnf

import (
	"iter"
	"maps"
	"slices"

	"assize/api"
	"assize/term"
)

// Env is what names stand for. It never changes once it is made.
type Env struct {
	globals []api.Global
	places  map[string]int // of each name, where it stands in globals
}

// New tells an environment of l, of two of one name the first.
func New(l []api.Global) *Env {
	var none *Env
	return none.With(l...)
}

// Find tells what stands for that name.
func (e *Env) Find(name string) (api.Global, bool) {
	if g := e.find(name); g != nil {
		return owned(*g), true
	}
	return api.Global{}, false
}

// Len tells how many names there are.
func (e *Env) Len() int {
	return len(e.list())
}

// All tells what each name stands for, in order.
func (e *Env) All() iter.Seq[api.Global] {
	return func(yield func(api.Global) bool) {
		if yield == nil {
			return
		}
		for _, g := range e.list() {
			if !yield(owned(g)) {
				return
			}
		}
	}
}

// With tells an environment with l behind e's own.
func (e *Env) With(l ...api.Global) *Env {
	out := &Env{globals: slices.Clone(e.list()), places: map[string]int{}}
	if e != nil {
		maps.Copy(out.places, e.places)
	}
	for _, g := range l {
		if _, ok := out.places[g.Name]; !ok {
			out.places[g.Name] = len(out.globals)
			out.globals = append(out.globals, owned(g))
		}
	}
	return out
}

// list tells the globals of e, which may be nil.
func (e *Env) list() []api.Global {
	if e == nil {
		return nil
	}
	return e.globals
}

// find tells what that name stands for, or nil: in e's own memory, which is
// read alone.
func (e *Env) find(name string) *api.Global {
	if e == nil {
		return nil
	}
	i, ok := e.places[name]
	if !ok {
		return nil
	}
	return &e.globals[i]
}

// named tells what t stands for, or nil, if it is no constant.
func (e *Env) named(t api.Term) *api.Global {
	if t.Kind != api.TConst {
		return nil
	}
	return e.find(t.Name)
}

// atLevels tells what t stands for, or nil, if that is of another kind or takes
// another number of levels.
func (e *Env) atLevels(t api.Term, kind int) *api.Global {
	g := e.named(t)
	if g == nil || g.Kind != kind || g.Vars != len(t.Levels) {
		return nil
	}
	return g
}

// owned tells g in memory of its own.
func owned(g api.Global) api.Global {
	g.Type, g.Value = ownedTerm(g.Type), ownedTerm(g.Value)
	g.Ctors = slices.Clone(g.Ctors)
	g.Rules = slices.Clone(g.Rules)
	for i := range g.Rules {
		g.Rules[i].Body = ownedTerm(g.Rules[i].Body)
	}
	return g
}

// ownedTerm tells t in memory of its own. A kid of term.Lam's is copied also
// where term.Lift would tell nothing, since it is too great.
func ownedTerm(t api.Term) api.Term {
	return term.Lam(api.Term{}, t).Kids[1]
}
