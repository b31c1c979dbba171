package decl

import (
	"assize/api"
	"assize/term"
	"assize/wire"
)

const (
	mostNumber = 1 << 20 // the greatest number that may be read
	levelNodes = 100     // nodes of a level
)

// source is what is still to be read, and the first fault that was met. Behind
// a fault nothing is read any more; what reading tells there is left unused.
type source struct {
	rest  []byte
	fault api.Errno
}

// fail notes a fault, if it is the first one.
func (s *source) fail(e api.Errno) {
	if s.fault == api.OK {
		s.fault = e
	}
}

// taker tells the function that takes from the beginning of bytes what read
// reads.
func taker[T any](read func(*source) T) func([]byte) (T, int, api.Errno) {
	return func(b []byte) (T, int, api.Errno) {
		s := source{rest: b}
		x := read(&s)
		if s.fault != api.OK {
			var none T
			return none, 0, s.fault
		}
		return x, len(b) - len(s.rest), api.OK
	}
}

// listTaker tells the function that takes from the beginning of bytes a list
// of at most most things that read reads.
func listTaker[T any](most int, read func(*source) T) func([]byte) ([]T, int, api.Errno) {
	return func(b []byte) ([]T, int, api.Errno) {
		return wire.TakeList(b, most, taker(read))
	}
}

// take reads what f takes.
func take[T any](s *source, f func([]byte) (T, int, api.Errno)) T {
	var none T
	if s.fault != api.OK {
		return none
	}
	x, n, e := f(s.rest)
	if e != api.OK {
		s.fail(e)
		return none
	}
	s.rest = s.rest[n:]
	return x
}

// readDecl reads a declaration.
func readDecl(s *source) api.Decl {
	d := api.Decl{Kind: readKind(s, api.DInd), Name: readName(s), Vars: readNumber(s), Type: readTerm(s)}
	switch d.Kind {
	case api.DDef:
		d.Value = readTerm(s)
	case api.DInd:
		d.Params = readNumber(s)
		d.Ctors = take(s, listTaker(api.MaxCtors, readCtor))
	}
	return d
}

// readCtor reads a constructor.
func readCtor(s *source) api.Ctor {
	return api.Ctor{Name: readName(s), Type: readTerm(s)}
}

// readTerm reads a term.
func readTerm(s *source) api.Term {
	return termNode(s, &budget{depth: api.MaxDepth, nodes: api.MaxTerm})
}

// termNode reads a term whose nodes left pays for.
func termNode(s *source, left *budget) api.Term {
	t := api.Term{Kind: readNode(s, api.TConst, left)}
	switch t.Kind {
	case api.TVar:
		t.N = readNumber(s)
	case api.TSort:
		t.Level = readLevel(s)
	case api.TConst:
		t.Name = readName(s)
		t.Levels = take(s, listTaker(api.MaxLevels, readLevel))
	case api.TPi, api.TLam, api.TApp:
		t.Kids = readKids(s, 2, left, termNode)
	case api.TLet:
		t.Kids = readKids(s, 3, left, termNode)
	}
	return t
}

// readLevel reads a level.
func readLevel(s *source) api.Level {
	return levelNode(s, &budget{depth: api.MaxLevel, nodes: levelNodes})
}

// levelNode reads a level whose nodes left pays for.
func levelNode(s *source, left *budget) api.Level {
	l := api.Level{Kind: readNode(s, api.LMax, left)}
	if hasNumber(l.Kind) {
		l.N = readNumber(s)
	}
	switch l.Kind {
	case api.LSucc:
		l.Kids = readKids(s, 1, left, levelNode)
	case api.LMax:
		l.Kids = readKids(s, 2, left, levelNode)
	}
	return l
}

// budget is how many nodes a level or term may still have, and how many of
// them one beneath the other.
type budget struct {
	depth int
	nodes int
}

// readNode reads the kind of a node, at most last, for which left pays; behind
// a fault it tells no kind, so that no kids are looked for.
func readNode(s *source, last int, left *budget) int {
	kind := readKind(s, last)
	if left.depth == 0 || left.nodes == 0 {
		s.fail(api.ErrLong)
	}
	left.nodes--
	if s.fault != api.OK {
		return 0
	}
	return kind
}

// readKids reads so many kids of a node.
func readKids[T any](s *source, n int, left *budget, read func(*source, *budget) T) []T {
	kids := make([]T, n)
	left.depth--
	for i := range kids {
		kids[i] = read(s, left)
	}
	left.depth++
	return kids
}

// readKind reads the byte of a kind from 1 to last.
func readKind(s *source, last int) int {
	kind := int(take(s, takeByte))
	if kind < 1 || kind > last {
		s.fail(api.ErrForm)
	}
	return kind
}

// takeByte takes the first byte of b.
func takeByte(b []byte) (byte, int, api.Errno) {
	if len(b) == 0 {
		return 0, 0, api.ErrShort
	}
	return b[0], 1, api.OK
}

// readNumber reads a number.
func readNumber(s *source) int {
	n := take(s, wire.Take)
	if n > mostNumber {
		s.fail(api.ErrArg)
	}
	return int(n)
}

// readName reads a name.
func readName(s *source) string {
	name := string(take(s, takeName))
	if !term.Name(name) {
		s.fail(api.ErrName)
	}
	return name
}

// takeName takes the bytes of a name, if they are no more than it may have.
func takeName(b []byte) ([]byte, int, api.Errno) {
	name, n, e := wire.TakeBytes(b, api.MaxName)
	if e == api.ErrLong {
		return nil, 0, api.ErrName
	}
	return name, n, e
}
