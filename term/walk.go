package term

import (
	"iter"

	"assize/api"
)

// arity tells how many kids a term of that kind has, and whether there is
// such a kind.
func arity(kind int) (int, bool) {
	switch kind {
	case api.TVar, api.TSort, api.TConst:
		return 0, true
	case api.TPi, api.TLam, api.TApp:
		return 2, true
	case api.TLet:
		return 3, true
	}
	return 0, false
}

// kidsOf tells the kids of t that are looked at: as many as its kind has, or
// none, if it lacks some.
func kidsOf(t api.Term) []api.Term {
	n, _ := arity(t.Kind)
	if len(t.Kids) < n {
		return nil
	}
	return t.Kids[:n]
}

// binds tells how many binders of t's own its kid i stands beneath.
func binds(t api.Term, i int) int {
	switch t.Kind {
	case api.TPi, api.TLam, api.TLet:
		if i == len(kidsOf(t))-1 {
			return 1
		}
	}
	return 0
}

// nodes goes over t's nodes, each ahead of its kids, with their depths. Of a
// term that is its own kid it never ends: who takes from it must count.
func nodes(t api.Term) iter.Seq2[int, api.Term] {
	return func(yield func(int, api.Term) bool) {
		walk(t, 1, yield)
	}
}

// walk tells t's nodes to yield, t's own depth being given, until that says
// that it has enough; it tells whether yield would take more.
func walk(t api.Term, depth int, yield func(int, api.Term) bool) bool {
	if !yield(depth, t) {
		return false
	}
	for _, kid := range kidsOf(t) {
		if !walk(kid, depth+1, yield) {
			return false
		}
	}
	return true
}

// fold tells what join makes of t, which stands beneath so many binders, and
// of what it made of its kids.
func fold[A any](t api.Term, binders int, join func(node api.Term, binders int, kids []A) A) A {
	var made []A
	if kids := kidsOf(t); len(kids) > 0 {
		made = make([]A, len(kids))
		for i, kid := range kids {
			made[i] = fold(kid, binders+binds(t, i), join)
		}
	}
	return join(t, binders, made)
}

// isApplied tells whether t is a function applied to an argument.
func isApplied(t api.Term) bool {
	return t.Kind == api.TApp && len(kidsOf(t)) > 0
}

// spine goes from t over what is applied in it to the left end: t itself, its
// function, the function of that, .., what is no application.
func spine(t api.Term) iter.Seq[api.Term] {
	return func(yield func(api.Term) bool) {
		for yield(t) && isApplied(t) {
			t = t.Kids[0]
		}
	}
}
