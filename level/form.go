package level

import (
	"slices"

	"assize/api"
)

// absent stands in a form's ks for a variable on which it does not hang.
const absent = -1

// form is what a level is, whatever its variables are: the greatest of c and
// of ks[i] more than the variable i, for each i that is not absent. Levels may
// say one thing in many ways; a settled form says it in one.
type form struct {
	c  int
	ks []int
}

// formOf tells l's form, settled, and whether l is sound.
func formOf(l api.Level) (form, bool) {
	if !isSound(l) {
		return form{}, false
	}
	var f form
	f.raise(l, 0)
	f.settle()
	return f, true
}

// raise makes f at least n more than l, which is sound.
func (f *form) raise(l api.Level, n int) {
	switch l.Kind {
	case api.LNum:
		f.c = max(f.c, sum(n, l.N))
	case api.LVar:
		f.raiseVar(l.N, n)
	case api.LSucc:
		f.raise(l.Kids[0], sum(n, l.N))
	case api.LMax:
		f.raise(l.Kids[0], n)
		f.raise(l.Kids[1], n)
	}
}

// raiseVar makes f at least n more than the variable i.
func (f *form) raiseVar(i, n int) {
	for len(f.ks) <= i {
		f.ks = append(f.ks, absent)
	}
	f.ks[i] = max(f.ks[i], n)
}

// raiseForm makes f at least n more than g.
func (f *form) raiseForm(g form, n int) {
	// Where g's c was settled away, some variable of g is raised as far: so
	// that f's c, if it came from there, is settled away, too.
	f.c = max(f.c, sum(n, g.c))
	for i, k := range g.ks {
		if k != absent {
			f.raiseVar(i, sum(n, k))
		}
	}
}

// settle leaves out c, where some variable is raised as far.
func (f *form) settle() {
	if len(f.ks) > 0 && slices.Max(f.ks) >= f.c {
		f.c = 0
	}
}

// same tells whether f and g, both settled, are the same.
func (f form) same(g form) bool {
	return f.c == g.c && slices.Equal(f.ks, g.ks)
}

// level tells f as a level.
func (f form) level() api.Level {
	parts := f.parts()
	l := parts[0]
	for _, p := range parts[1:] {
		l = join(l, p)
	}
	return l
}

// parts tells the levels, one or more, whose greatest f is.
func (f form) parts() []api.Level {
	var parts []api.Level
	if f.c != 0 || len(f.ks) == 0 {
		parts = append(parts, Num(f.c))
	}
	for i, k := range f.ks {
		switch {
		case k == absent:
		case k == 0:
			parts = append(parts, Var(i))
		default:
			parts = append(parts, succ(k, Var(i)))
		}
	}
	return parts
}
