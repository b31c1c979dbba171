package whnf

import (
	"slices"

	"assize/api"
	"assize/term"
)

// spine is a term as what stands at its left end, and what that is applied to.
// It shares its parts with the term that it was made of: term.Spine would copy
// all of them for each step.
type spine struct {
	head api.Term
	args []api.Term
}

// spineOf tells the spine of t applied to rest.
func spineOf(t api.Term, rest []api.Term) spine {
	var args []api.Term
	for t.Kind == api.TApp && len(t.Kids) == 2 {
		args = append(args, t.Kids[1])
		t = t.Kids[0]
	}
	slices.Reverse(args)
	return spine{t, slices.Concat(args, rest)}
}

// term tells the term whose spine s is.
func (s spine) term() api.Term {
	t := s.head
	for _, a := range s.args {
		t = api.Term{Kind: api.TApp, Kids: []api.Term{t, a}}
	}
	return t
}

// nodes tells how many nodes t has, and one more than may come about of a term
// that is too great to be counted.
func nodes(t api.Term) int {
	if n := term.Size(t); n > 0 {
		return n
	}
	return api.MaxGrown + 1
}

// appliedNodes tells by how many nodes what is applied to args grows.
func appliedNodes(args []api.Term) int {
	n := 0
	for _, a := range args {
		n += 1 + nodes(a)
	}
	return n
}

// places tells how often the variable n stands in t, which has none but kids of
// its kinds.
func places(t api.Term, n int) int {
	if t.Kind == api.TVar && t.N == n {
		return 1
	}
	count := 0
	for i, kid := range t.Kids {
		under := n
		if t.Kind != api.TApp && i == len(t.Kids)-1 {
			under++
		}
		count += places(kid, under)
	}
	return count
}
