package level

import "assize/api"

// What a level that is handed in has at most.
const (
	mayNodes  = 100
	mayNumber = 1 << 20
)

// What a sound level has at most.
const (
	soundDepth = 256
	soundNodes = 1000
	soundVars  = 1001
)

// What a level has at most of which a copy is made: the document's limits of
// nesting and of an answer's bytes (a node has five words of eight).
const (
	ownDepth = 1 << 16
	ownNodes = (1<<31 - 1) / 40
)

// bounds is what a level that is gone over may have: nodes is counted down.
type bounds struct {
	depth  int
	nodes  int
	number int
	vars   int
}

// isSound tells whether l is sound.
func isSound(l api.Level) bool {
	return check(l, 1, &bounds{depth: soundDepth, nodes: soundNodes, number: most, vars: soundVars}) == api.OK
}

// check tells the first thing in l, a node ahead of its kids, that is beyond
// the bounds; l's own depth is given. It ends whatever l is, since it counts.
func check(l api.Level, depth int, b *bounds) api.Errno {
	if depth > b.depth || b.nodes == 0 {
		return api.ErrLong
	}
	b.nodes--
	if !hasKids(l) || !hasNumber(l, b.number) {
		return api.ErrArg
	}
	if l.Kind == api.LVar && (l.N < 0 || l.N >= b.vars) {
		return api.ErrLevels
	}
	for _, kid := range l.Kids {
		if e := check(kid, depth+1, b); e != api.OK {
			return e
		}
	}
	return api.OK
}

// hasKids tells whether l is of some kind, with as many kids as that has.
func hasKids(l api.Level) bool {
	switch l.Kind {
	case api.LNum, api.LVar:
		return len(l.Kids) == 0
	case api.LSucc:
		return len(l.Kids) == 1
	case api.LMax:
		return len(l.Kids) == 2
	}
	return false
}

// hasNumber tells whether l's number, if it is no variable's, is one that its
// kind may have, and at most top.
func hasNumber(l api.Level, top int) bool {
	switch l.Kind {
	case api.LNum:
		return 0 <= l.N && l.N <= top
	case api.LSucc:
		return 1 <= l.N && l.N <= top
	}
	return true
}

// own tells l in memory of its own, without what its kinds give no meaning.
func own(l api.Level) api.Level {
	nodes := ownNodes
	if !fits(l, ownDepth, &nodes) {
		// A level that is beyond the limits may be its own kid: then a copy
		// would never end.
		return l
	}
	return copied(l)
}

// fits tells whether l is no deeper than depth, with no more nodes than those
// that are left, which it counts down.
func fits(l api.Level, depth int, left *int) bool {
	if depth == 0 || *left == 0 {
		return false
	}
	*left--
	for _, kid := range l.Kids {
		if !fits(kid, depth-1, left) {
			return false
		}
	}
	return true
}

// copied tells a copy of l, as own does, of one that fits.
func copied(l api.Level) api.Level {
	c := api.Level{Kind: l.Kind}
	switch l.Kind {
	case api.LNum, api.LVar, api.LSucc:
		c.N = l.N
	case api.LMax:
	default:
		return c
	}
	// Kids that are too many are copied, too: else a level that is not sound
	// would become one that is.
	for _, kid := range l.Kids {
		c.Kids = append(c.Kids, copied(kid))
	}
	return c
}
