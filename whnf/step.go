package whnf

import (
	"slices"

	"assize/api"
	"assize/term"
)

// step is a step that may be taken: how many nodes the term has that comes
// about, and how it comes about. Its nodes are reckoned ahead, since there may
// be more of them than there is memory.
type step struct {
	nodes int
	take  func() spine
}

// paid takes the step, for one of fuel.
func (s step) paid(fuel *int) (spine, api.Errno) {
	if *fuel == 0 {
		return spine{}, api.ErrFuel
	}
	*fuel--
	if s.nodes > api.MaxGrown {
		return spine{}, api.ErrSize
	}
	return s.take(), api.OK
}

// put is the step to body with v in it, applied to args.
func put(body, v api.Term, args []api.Term) step {
	return step{
		nodes: nodes(body) + places(body, 0)*(nodes(v)-1) + appliedNodes(args),
		take:  func() spine { return spineOf(term.Inst(body, v), args) },
	}
}

// unfold is the step to t at these levels, applied to args.
func unfold(t api.Term, levels []api.Level, args []api.Term) step {
	return step{
		nodes: nodes(t) + appliedNodes(args),
		take:  func() spine { return spineOf(term.InstLevels(t, levels), args) },
	}
}

// next tells the step of s for which no major is asked: beta, zeta or delta.
func (e *Env) next(s spine) (step, bool) {
	kids := s.head.Kids
	switch s.head.Kind {
	case api.TLam:
		if len(kids) == 2 && len(s.args) > 0 {
			return put(kids[1], s.args[0], s.args[1:]), true
		}
	case api.TLet:
		if len(kids) == 3 {
			return put(kids[2], kids[1], s.args), true
		}
	case api.TConst:
		if g := e.atLevels(s.head, api.GDef); g != nil {
			return unfold(g.Value, s.head.Levels, s.args), true
		}
	}
	return step{}, false
}

// major tells the argument of s on which a recursor at its head works.
func (e *Env) major(s spine) (api.Term, bool) {
	r := e.atLevels(s.head, api.GRec)
	if r == nil {
		return api.Term{}, false
	}
	m, ok := majorPlace(r, len(s.args))
	if !ok {
		return api.Term{}, false
	}
	return s.args[m], true
}

// majorPlace tells which of n arguments of the recursor r is its major.
func majorPlace(r *api.Global, n int) (int, bool) {
	m := 1
	for _, k := range [3]int{r.Params, r.Minors, r.Indices} {
		if k < 0 || k > n {
			return 0, false // the sum of those that stay does not wrap
		}
		m += k
	}
	return m, m < n
}

// iota tells the step of s, which waited for its major, now reduced.
func (e *Env) iota(s, major spine) (step, bool) {
	r, c := e.atLevels(s.head, api.GRec), e.named(major.head)
	if c == nil || c.Kind != api.GCtor || c.Ind != r.Ind {
		return step{}, false
	}
	i := slices.IndexFunc(r.Rules, func(x api.Rule) bool { return x.Ctor == c.Name })
	if i < 0 {
		return step{}, false
	}
	rule := r.Rules[i]
	if rule.Fields < 0 || len(major.args)-r.Params != rule.Fields {
		return step{}, false
	}
	m, _ := majorPlace(r, len(s.args))
	args := slices.Concat(s.args[:m-r.Indices], major.args[r.Params:], s.args[m+1:])
	return unfold(rule.Body, s.head.Levels, args), true
}
