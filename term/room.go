package term

import (
	"assize/api"
	"assize/level"
)

// The document's limits of an answer, and what its parts take of it.
const (
	mostBytes   = 1<<31 - 1
	mostNesting = 1 << 16
	termBytes   = 120
	levelBytes  = 40
)

// room is how many bytes an answer may still have. What is handed in may hold
// one list in many places, or itself; an answer has a copy for each, and what
// no copy has room for is shared instead.
type room struct {
	left int
}

// newRoom tells the room of one answer.
func newRoom() *room {
	return &room{left: mostBytes}
}

// owned tells t in memory of its own, with nothing but what its kinds give a
// meaning; or t, if there is no room for a copy.
func (r *room) owned(t api.Term) api.Term {
	if !takes(r, []api.Term{t}, termBytes, kidsOf) {
		return t
	}
	return fold(t, 0, func(node api.Term, _ int, kids []api.Term) api.Term {
		return r.node(node, kids)
	})
}

// joined tells a term of that kind with copies of these kids.
func (r *room) joined(kind int, kids ...api.Term) api.Term {
	var out []api.Term
	for _, k := range kids {
		out = append(out, r.owned(k))
	}
	return api.Term{Kind: kind, Kids: out}
}

// node tells a node with these kids, which become its own.
func (r *room) node(t api.Term, kids []api.Term) api.Term {
	out := api.Term{Kind: t.Kind, Kids: kids}
	switch t.Kind {
	case api.TVar:
		out.N = t.N
	case api.TSort:
		out.Level = r.levels([]api.Level{t.Level})[0]
	case api.TConst:
		out.Name, out.Levels = t.Name, r.levels(t.Levels)
	}
	return out
}

// lifted tells a copy of t with by added to each variable that is from or
// more, as seen from outside.
func (r *room) lifted(t api.Term, from, by int) api.Term {
	return fold(t, 0, func(node api.Term, binders int, kids []api.Term) api.Term {
		out := r.node(node, kids)
		// What is bound in t is asked for first: so nothing wraps.
		if node.Kind == api.TVar && node.N >= binders && node.N-binders >= from {
			out.N = max(plus(node.N, by), binders)
		}
		return out
	})
}

// put tells a copy of t with one of v in each place of variable 0.
func (r *room) put(t, v api.Term) api.Term {
	return fold(t, 0, func(node api.Term, binders int, kids []api.Term) api.Term {
		if isPlace(node, binders) {
			return r.lifted(v, 0, binders)
		}
		out := r.node(node, kids)
		if node.Kind == api.TVar && node.N > binders {
			out.N--
		}
		return out
	})
}

// levels tells copies of ls, or ls, if there is no room for them.
func (r *room) levels(ls []api.Level) []api.Level {
	if !takes(r, ls, levelBytes, func(l api.Level) []api.Level { return l.Kids }) {
		return ls
	}
	var out []api.Level
	for _, l := range ls {
		out = append(out, level.Plus(0, l))
	}
	return out
}

// takes takes the room for copies of these and of all their kids, each node of
// so many bytes, and tells whether there is so much. If there is not, none is
// left: else a great thing that stands in many places would be counted at each.
func takes[T any](r *room, these []T, bytes int, kids func(T) []T) bool {
	if !count(r, these, bytes, mostNesting, kids) {
		r.left = 0
		return false
	}
	return true
}

// count does what takes does, of what is no deeper than depth; it may take
// some of the room where it tells false.
func count[T any](r *room, these []T, bytes, depth int, kids func(T) []T) bool {
	if len(these) == 0 {
		return true
	}
	if depth == 0 || len(these) > r.left/bytes {
		return false
	}
	r.left -= len(these) * bytes
	for _, t := range these {
		if !count(r, kids(t), bytes, depth-1, kids) {
			return false
		}
	}
	return true
}
