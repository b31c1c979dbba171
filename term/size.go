package term

import "assize/api"

// What a term has at most that is not too great.
const (
	greatNodes = 20000
	greatDepth = 2000
)

// size is how great a term is.
type size struct {
	nodes int
	depth int
}

// measure tells how great t is, and whether it is not too great; it ends
// whatever t is, since it counts.
func measure(t api.Term) (size, bool) {
	var s size
	for depth := range nodes(t) {
		s.nodes++
		s.depth = max(s.depth, depth)
		if !s.isIn() {
			return size{}, false
		}
	}
	return s, true
}

// isGreat tells whether t is too great.
func isGreat(t api.Term) bool {
	_, ok := measure(t)
	return !ok
}

// isIn tells whether a term of this size is not too great.
func (s size) isIn() bool {
	return s.nodes <= greatNodes && s.depth <= greatDepth
}

// applied tells how great a term of this size is, applied to a, and whether
// neither that nor a is too great.
func (s size) applied(a api.Term) (size, bool) {
	of, ok := measure(a)
	out := size{1 + s.nodes + of.nodes, 1 + max(s.depth, of.depth)}
	return out, ok && out.isIn()
}

// places is where a term has variable 0: how often, and how deep at most.
type places struct {
	count int
	depth int
}

// placesOf tells where t, which is not too great, has variable 0.
func placesOf(t api.Term) places {
	return fold(t, 0, func(node api.Term, binders int, kids []places) places {
		if isPlace(node, binders) {
			return places{1, 1}
		}
		var out places
		for _, p := range kids {
			out.count += p.count
			if p.count > 0 {
				out.depth = max(out.depth, p.depth+1)
			}
		}
		return out
	})
}

// isPlace tells whether a node beneath so many binders is what variable 0 is
// outside.
func isPlace(node api.Term, binders int) bool {
	return node.Kind == api.TVar && node.N == binders
}

// holds tells whether a term of this size is not too great when one of size
// v stands in these places of it. It is asked ahead of putting in: what would
// come about may have more nodes than there is memory.
func (s size) holds(v size, at places) bool {
	grown := size{s.nodes + at.count*(v.nodes-1), s.depth}
	if at.count > 0 {
		grown.depth = max(s.depth, at.depth+v.depth-1)
	}
	return grown.isIn()
}
