package decl

import (
	"bytes"
	"fmt"
	"math"
	"math/rand"
	"reflect"
	"regexp"
	"slices"
	"strings"
	"testing"

	"assize/api"
)

// The terms of these tests are written out as data, so that no call that is
// tested stands on another one.
func vari(n int) api.Term { return api.Term{Kind: api.TVar, N: n} }
func cons(name string, ls ...api.Level) api.Term {
	return api.Term{Kind: api.TConst, Name: name, Levels: ls}
}
func sort(l api.Level) api.Term          { return api.Term{Kind: api.TSort, Level: l} }
func pi(a, b api.Term) api.Term          { return node(api.TPi, a, b) }
func lam(a, b api.Term) api.Term         { return node(api.TLam, a, b) }
func let(a, v, b api.Term) api.Term      { return node(api.TLet, a, v, b) }
func app(f, a api.Term) api.Term         { return node(api.TApp, f, a) }
func num(n int) api.Level                { return api.Level{Kind: api.LNum, N: n} }
func lvar(i int) api.Level               { return api.Level{Kind: api.LVar, N: i} }
func lsucc(n int, l api.Level) api.Level { return levelKids(api.LSucc, n, l) }
func lmax(a, b api.Level) api.Level      { return levelKids(api.LMax, 0, a, b) }
func node(kind int, kids ...api.Term) api.Term {
	return api.Term{Kind: kind, Kids: kids}
}
func levelKids(kind, n int, kids ...api.Level) api.Level {
	return api.Level{Kind: kind, N: n, Kids: kids}
}

// prop is a term that may stand anywhere.
var prop = sort(num(0))

func axiom(t api.Term) api.Decl  { return api.Decl{Kind: api.DAxiom, Name: "a", Type: t} }
func def(t, v api.Term) api.Decl { return api.Decl{Kind: api.DDef, Name: "a", Type: t, Value: v} }
func ind(params int, cs ...api.Ctor) api.Decl {
	return api.Decl{Kind: api.DInd, Name: "a", Type: prop, Params: params, Ctors: cs}
}

// with is d with so many level variables.
func with(vars int, d api.Decl) api.Decl {
	d.Vars = vars
	return d
}

// named is d by another name.
func named(name string, d api.Decl) api.Decl {
	d.Name = name
	return d
}

// times tells a text so many times, one behind the other.
func times(n int, s string) string { return strings.Repeat(s, n) }

// name32 is a name as long as one may be.
var name32 = "n" + times(31, "9")

// ctors are so many constructors, all alike.
func ctors(n int) []api.Ctor {
	var cs []api.Ctor
	for range n {
		cs = append(cs, api.Ctor{Name: "c", Type: prop})
	}
	return cs
}

// chainOf is a term of depth n: a binder in a binder, .. around last.
func chainOf(n int, last api.Term) api.Term {
	for range n - 1 {
		last = lam(prop, last)
	}
	return last
}

// balanced has n leaves, so 2n - 1 nodes, at a small depth.
func balanced(n int, leaf api.Term) api.Term {
	if n == 1 {
		return leaf
	}
	return app(balanced(n/2, leaf), balanced(n-n/2, leaf))
}

// levelChain is a level of depth n.
func levelChain(n int) api.Level {
	l := num(0)
	for range n - 1 {
		l = lsucc(1, l)
	}
	return l
}

// levelTree has n leaves, so 2n - 1 nodes, at a small depth.
func levelTree(n int, leaf api.Level) api.Level {
	if n == 1 {
		return leaf
	}
	return lmax(levelTree(n/2, leaf), levelTree(n-n/2, leaf))
}

// cases are declarations that may be, and their bytes.
func cases() map[string]api.Decl {
	zero := "\x02\x01\x00" // prop
	return map[string]api.Decl{
		"\x01\x01a\x00" + zero:                                       axiom(prop),
		"\x01\x03x.9\x06" + zero:                                     named("x.9", with(6, axiom(prop))),
		"\x01\x20" + name32 + "\x00" + zero:                          named(name32, axiom(prop)),
		"\x01\x01a\x00\x01\x00":                                      axiom(vari(0)),
		"\x01\x01a\x00\x01\x80\x80\x40":                              axiom(vari(1048576)),
		"\x01\x01a\x00\x02\x01\x80\x80\x40":                          axiom(sort(num(1048576))),
		"\x01\x01a\x03\x02\x02\x02":                                  with(3, axiom(sort(lvar(2)))),
		"\x01\x01a\x01\x02\x03\x80\x01\x02\x00":                      with(1, axiom(sort(lsucc(128, lvar(0))))),
		"\x01\x01a\x00\x02\x03\x80\x80\x40\x01\x00":                  axiom(sort(lsucc(1048576, num(0)))),
		"\x01\x01a\x02\x02\x04\x01\x05\x03\x01\x02\x01":              with(2, axiom(sort(lmax(num(5), lsucc(1, lvar(1)))))),
		"\x01\x01a\x00\x03" + zero + "\x01\x00":                      axiom(pi(prop, vari(0))),
		"\x01\x01a\x00\x04" + zero + "\x01\x01":                      axiom(lam(prop, vari(1))),
		"\x01\x01a\x00\x05" + zero + "\x01\x01\x01\x02":              axiom(let(prop, vari(1), vari(2))),
		"\x01\x01a\x00\x06\x01\x03\x01\x04":                          axiom(app(vari(3), vari(4))),
		"\x01\x01a\x00\x07\x02bc\x00":                                axiom(cons("bc")),
		"\x01\x01a\x01\x07\x01b\x02\x01\x07\x02\x00":                 with(1, axiom(cons("b", num(7), lvar(0)))),
		"\x01\x01a\x00\x07\x01b\x06" + times(6, "\x01\x01"):          axiom(cons("b", num(1), num(1), num(1), num(1), num(1), num(1))),
		"\x02\x01a\x00" + zero + "\x06\x01\x00\x01\x01":              def(prop, app(vari(0), vari(1))),
		"\x02\x01a\x01\x02\x02\x00\x07\x01b\x01\x02\x00":             with(1, def(sort(lvar(0)), cons("b", lvar(0)))),
		"\x03\x01a\x00" + zero + "\x00\x00":                          ind(0),
		"\x03\x01a\x00" + zero + "\x40\x00":                          ind(64),
		"\x03\x01a\x00" + zero + "\x02\x01\x04zero\x01\x05":          ind(2, api.Ctor{Name: "zero", Type: vari(5)}),
		"\x03\x01a\x00" + zero + "\x00\x02\x01b\x01\x05\x01c" + zero: ind(0, api.Ctor{Name: "b", Type: vari(5)}, api.Ctor{Name: "c", Type: prop}),
		"\x03\x01a\x00" + zero + "\x01\x08" + times(8, "\x01c"+zero): ind(1, ctors(8)...),
		"\x01\x01a\x00" + times(63, "\x04"+zero) + zero:              axiom(chainOf(64, prop)),
		"\x01\x01a\x00\x02" + times(31, "\x03\x01") + "\x01\x00":     axiom(sort(levelChain(32))),
	}
}

// fault is a declaration and what May tells of it.
type fault struct {
	d    api.Decl
	want api.Errno
}

// faults are declarations that may not be, or just may be.
func faults() []fault {
	bad, noName := api.Term{}, api.Ctor{Name: "A", Type: prop}
	badCtor := api.Ctor{Name: "c", Type: bad}
	kind := func(k int, d api.Decl) api.Decl { d.Kind = k; return d }
	return []fault{
		{api.Decl{}, api.ErrArg}, {kind(0, axiom(prop)), api.ErrArg}, {kind(4, axiom(prop)), api.ErrArg}, {kind(-1, ind(0)), api.ErrArg}, {kind(257, axiom(prop)), api.ErrArg}, {kind(math.MinInt, axiom(prop)), api.ErrArg}, {kind(math.MaxInt, axiom(prop)), api.ErrArg},
		{named("", axiom(prop)), api.ErrName}, {named("A", axiom(prop)), api.ErrName}, {named("9", axiom(prop)), api.ErrName}, {named(name32+"9", axiom(prop)), api.ErrName}, {named("a\x00", axiom(prop)), api.ErrName}, {named(name32, axiom(prop)), api.OK},
		{with(-1, axiom(prop)), api.ErrArg}, {with(math.MinInt, axiom(prop)), api.ErrArg}, {with(7, axiom(prop)), api.ErrLong}, {with(math.MaxInt, axiom(prop)), api.ErrLong}, {with(6, axiom(prop)), api.OK},
		{axiom(bad), api.ErrArg}, {axiom(vari(-1)), api.ErrArg}, {axiom(vari(1048577)), api.ErrArg}, {axiom(cons("")), api.ErrName}, {axiom(node(api.TApp, prop)), api.ErrArg}, {axiom(sort(lvar(0))), api.ErrLevels}, {with(2, axiom(sort(lvar(1)))), api.OK}, {with(2, axiom(sort(lvar(2)))), api.ErrLevels},
		{axiom(chainOf(64, prop)), api.OK}, {axiom(chainOf(65, prop)), api.ErrLong}, {axiom(balanced(200, prop)), api.OK}, {axiom(balanced(201, prop)), api.ErrLong}, {axiom(sort(levelChain(33))), api.ErrLong}, {axiom(sort(levelTree(51, num(0)))), api.ErrLong},
		{def(prop, bad), api.ErrArg}, {def(prop, cons("A")), api.ErrName}, {def(prop, sort(lvar(0))), api.ErrLevels}, {with(1, def(prop, sort(lvar(0)))), api.OK}, {with(1, def(prop, sort(lvar(1)))), api.ErrLevels}, {def(prop, chainOf(65, prop)), api.ErrLong}, {def(cons("A"), bad), api.ErrName}, {def(bad, cons("A")), api.ErrArg},
		{ind(-1), api.ErrArg}, {ind(65), api.ErrArg}, {ind(64), api.OK}, {ind(math.MinInt), api.ErrArg}, {ind(0, ctors(9)...), api.ErrMany}, {ind(0, ctors(8)...), api.OK}, {ind(0, noName), api.ErrName}, {ind(0, api.Ctor{Type: prop}), api.ErrName}, {ind(0, badCtor), api.ErrArg},
		{ind(0, api.Ctor{Name: name32 + "9", Type: prop}), api.ErrName}, {ind(0, api.Ctor{Name: "c", Type: sort(lvar(0))}), api.ErrLevels}, {with(1, ind(0, api.Ctor{Name: "c", Type: sort(lvar(0))})), api.OK}, {ind(0, append(ctors(7), noName)...), api.ErrName}, {ind(0, append(ctors(7), badCtor)...), api.ErrArg},
		// Several at once: the first one that the promise lists.
		{api.Decl{Kind: 4, Vars: 7}, api.ErrArg}, {with(-1, named("", axiom(bad))), api.ErrName}, {with(7, named("", axiom(bad))), api.ErrName}, {with(7, axiom(bad)), api.ErrLong}, {with(-1, axiom(cons(""))), api.ErrArg}, {with(7, axiom(sort(lvar(9)))), api.ErrLong},
		{api.Decl{Kind: api.DInd, Name: "a", Type: cons("A"), Params: -1}, api.ErrName}, {ind(-1, ctors(9)...), api.ErrArg}, {ind(65, noName), api.ErrArg}, {ind(0, append(ctors(8), noName)...), api.ErrMany}, {ind(0, append([]api.Ctor{noName}, ctors(8)...)...), api.ErrMany},
		{ind(0, noName, badCtor), api.ErrName}, {ind(0, badCtor, noName), api.ErrArg}, {ind(0, api.Ctor{Name: "A", Type: bad}), api.ErrName},
		// What a kind gives no meaning.
		{api.Decl{Kind: api.DAxiom, Name: "a", Type: prop, Value: vari(-1), Params: -1, Ctors: make([]api.Ctor, 9)}, api.OK}, {api.Decl{Kind: api.DDef, Name: "a", Type: prop, Value: prop, Params: -1, Ctors: make([]api.Ctor, 9)}, api.OK}, {api.Decl{Kind: api.DInd, Name: "a", Type: prop, Value: vari(-1)}, api.OK},
	}
}

func TestP9_1May(t *testing.T) {
	for s, d := range cases() {
		if e := May(d); e != api.OK {
			t.Errorf("%x: %d", s, e)
		}
	}
	for i, c := range faults() {
		if e := May(c.d); e != c.want {
			t.Errorf("%d: %d, not %d", i, e, c.want)
		}
	}
}

func TestP9_2Encode(t *testing.T) {
	for want, d := range cases() {
		if b, e := Encode(d); e != api.OK || string(b) != want {
			t.Errorf("%x, not %x: %d", b, want, e)
		}
	}
	for i, c := range faults() {
		b, e := Encode(c.d)
		if e != c.want || (b == nil) != (e != api.OK) {
			t.Errorf("%d: %d, not %d: %x", i, e, c.want, b)
		}
	}
}

func TestP9_2Decode(t *testing.T) {
	for s, want := range cases() {
		if d, e := Decode([]byte(s)); e != api.OK || !reflect.DeepEqual(d, want) {
			t.Errorf("%x: %d %+v", s, e, d)
		}
	}
}

// refusals are bytes that are no declaration, and why.
func refusals() map[string]api.Errno {
	zero, a := "\x02\x01\x00", "\x01\x01a\x00"
	level, big, wide := a+"\x02", "\x81\x80\x40", "\xff\xff\xff\xff\xff\xff\xff\xff\xff"
	deep := a + times(63, "\x04"+zero)
	deepLevel := level + times(31, "\x03\x01")
	c := "\x03\x01a\x00" + zero + "\x00"
	return map[string]api.Errno{
		"": api.ErrShort, "\x00": api.ErrForm, "\x04": api.ErrForm, "\x81\x00": api.ErrForm, "\xff": api.ErrForm, "\x01": api.ErrShort, "\x03": api.ErrShort,
		"\x04\x21": api.ErrForm, "\x01\x20": api.ErrShort, "\x01\x21": api.ErrName, "\x01\x80": api.ErrShort, "\x01\x80\x00": api.ErrForm, "\x01\x81\x00": api.ErrForm, "\x01\xff\x01": api.ErrName, "\x01" + wide + "\x01": api.ErrName, "\x01" + wide + "\x02": api.ErrForm, "\x01" + wide + "\x80\x01": api.ErrForm, "\x01" + wide: api.ErrShort,
		"\x01\x00": api.ErrName, "\x01\x01": api.ErrShort, "\x01\x01A": api.ErrName, "\x01\x029a": api.ErrName, "\x01\x02a": api.ErrShort, "\x01\x02A": api.ErrShort, "\x01\x02a\xff": api.ErrName, "\x01\x21" + name32 + "9\x00" + zero: api.ErrName, "\x01\x20" + times(31, "a") + " ": api.ErrName, "\x01\x01a": api.ErrShort,
		"\x01\x01a\x80\x00": api.ErrForm, "\x01\x01a" + big: api.ErrArg, "\x01\x01a\x80\x80\x40": api.ErrShort, "\x01\x01a\x80\x80\x40" + zero: api.ErrLong, "\x01\x01a\x07" + zero: api.ErrLong, "\x01\x01a\x07" + zero + "\x00": api.ErrForm, "\x01\x01a" + wide + "\x01": api.ErrArg, "\x01\x01a" + wide + "\x02": api.ErrForm, "\x01\x01a\x07\x02\x02\x09": api.ErrLong,
		a: api.ErrShort, a + "\x00": api.ErrForm, a + "\x08": api.ErrForm, a + "\x81\x00": api.ErrForm, a + zero + "\x00": api.ErrForm, a + zero + zero: api.ErrForm,
		a + "\x01": api.ErrShort, a + "\x01\x80\x00": api.ErrForm, a + "\x01" + big: api.ErrArg, a + "\x01\x80\x80\x40\x00": api.ErrForm,
		level: api.ErrShort, level + "\x00": api.ErrForm, level + "\x05": api.ErrForm, level + "\x01": api.ErrShort, level + "\x01" + big: api.ErrArg, level + "\x01\x80\x00": api.ErrForm,
		level + "\x02" + big: api.ErrArg, level + "\x02\x00": api.ErrLevels, level + "\x02\x00\x00": api.ErrForm, "\x01\x01a\x03\x02\x02\x03": api.ErrLevels, level + "\x02\x80\x80\x40": api.ErrLevels,
		level + "\x03": api.ErrShort, level + "\x03\x01": api.ErrShort, level + "\x03" + big: api.ErrArg, level + "\x03\x00\x01\x00": api.ErrArg, level + "\x03\x00\x05": api.ErrForm, level + "\x03\x00\x01\x00\x00": api.ErrForm, level + "\x04": api.ErrShort, level + "\x04\x01\x00": api.ErrShort, level + "\x04\x01\x00\x05": api.ErrForm, level + "\x04\x01" + big + "\x09": api.ErrArg,
		deepLevel: api.ErrShort, deepLevel + "\x05": api.ErrForm, deepLevel + "\x03\x01": api.ErrShort, deepLevel + "\x03\x01\x05": api.ErrForm, deepLevel + "\x03\x01\x01": api.ErrLong, deepLevel + "\x03\x01\x04": api.ErrLong, deepLevel + "\x04\x02" + big: api.ErrLong, deepLevel + "\x03" + big + "\x01": api.ErrArg,
		deep: api.ErrShort, deep + "\x08": api.ErrForm, deep + "\x04": api.ErrShort, deep + "\x04\x08": api.ErrForm, deep + "\x04\x01": api.ErrLong, deep + "\x04\x02\x09": api.ErrLong, deep + "\x01" + big: api.ErrArg, deep + zero + "\x00": api.ErrForm,
		a + "\x07\x00": api.ErrName, a + "\x07\x21": api.ErrName, a + "\x07\x01B": api.ErrName, a + "\x07\x01b": api.ErrShort, a + "\x07\x01b\x07": api.ErrMany, a + "\x07\x01b\x06": api.ErrShort, a + "\x07\x01b\x80\x00": api.ErrForm, a + "\x07\x01b\x01\x05": api.ErrForm, a + "\x07\x01b\x01\x02\x00": api.ErrLevels, a + "\x07\x01b\x02\x02\x00\x05": api.ErrForm, a + "\x07\x01b" + wide + "\x01": api.ErrMany,
		a + "\x03\x01" + big + "\x09": api.ErrArg, a + "\x03\x09\x01" + big: api.ErrForm, a + "\x05\x01\x00\x01\x00": api.ErrShort, a + "\x06\x02\x02\x00\x07\x01B": api.ErrName, a + "\x06\x02\x02\x00\x01\x00\x00": api.ErrForm,
		"\x02\x01a\x00" + zero: api.ErrShort, "\x02\x01a\x00" + zero + "\x08": api.ErrForm, "\x02\x01a\x00" + zero + zero + "\x01": api.ErrForm, "\x02\x01a\x00" + zero + "\x02\x02\x00": api.ErrLevels, "\x02\x01a\x07" + zero + "\x02\x02\x09": api.ErrLong, "\x02\x01a\x00" + zero + "\x01" + big: api.ErrArg,
		"\x03\x01a\x00" + zero: api.ErrShort, "\x03\x01a\x00" + zero + "\x41\x00": api.ErrArg, "\x03\x01a\x00" + zero + "\x41\x09": api.ErrMany, "\x03\x01a\x00" + zero + big: api.ErrArg, "\x03\x01a\x00" + zero + "\x80\x80\x40\x00": api.ErrArg, "\x03\x01a\x00" + zero + "\x80\x80\x40": api.ErrShort, "\x03\x01a\x00" + zero + "\x80\x00": api.ErrForm,
		c: api.ErrShort, c + "\x09": api.ErrMany, c + "\x08": api.ErrShort, c + "\x80\x00": api.ErrForm, c + "\x00\x00": api.ErrForm, c + "\x01\x00": api.ErrName, c + "\x01\x21": api.ErrName, c + "\x01\x01B": api.ErrName, c + "\x01\x01b": api.ErrShort, c + "\x01\x01b\x08": api.ErrForm, c + "\x01\x01b\x02\x02\x00": api.ErrLevels, c + "\x01\x01b\x02\x02\x00\x00": api.ErrForm, c + "\x02\x01b\x02\x02\x00\x01B": api.ErrName, c + "\x02\x01b\x01" + big + "\x01B": api.ErrArg,
		c + "\x08" + times(7, "\x01b"+zero): api.ErrShort, c + "\x08" + times(9, "\x01b"+zero): api.ErrForm,
	}
}

func TestP9_2Refused(t *testing.T) {
	for s, want := range refusals() {
		if d, e := Decode([]byte(s)); e != want || !reflect.DeepEqual(d, api.Decl{}) {
			t.Errorf("%x: %d, not %d: %+v", s, e, want, d)
		}
	}
}

// TestP9_2Nodes: the last node that a term or level may have, and the next one.
func TestP9_2Nodes(t *testing.T) {
	terms := func(n int) string { return "\x01\x01a\x00" + halves(n, "\x06", "\x01\x00") }
	levels := func(n int) string { return "\x01\x01a\x00\x02" + halves(n, "\x04", "\x01\x00") }
	twice := "\x01\x01a\x00\x06" + times(2, levels(50)[4:])
	let, more := "\x05\x01\x00\x01\x00", "\x01\x01a\x00\x02\x03\x01" // 3 nodes, 1 node more
	for s, want := range map[string]api.Errno{
		terms(200): api.OK, terms(201): api.ErrLong, terms(300): api.ErrLong, "\x01\x01a\x00" + let + terms(200)[4:]: api.ErrLong, "\x01\x01a\x00" + let + terms(199)[4:]: api.OK,
		levels(50): api.OK, levels(51): api.ErrLong, more + levels(50)[5:]: api.OK, "\x01\x01a\x00\x02\x03\x01\x03\x01" + levels(50)[5:]: api.ErrLong,
		twice: api.OK, "\x02\x01a\x00" + terms(200)[4:] + terms(200)[4:]: api.OK, "\x02\x01a\x00" + terms(200)[4:] + terms(201)[4:]: api.ErrLong,
		"\x03\x01a\x00" + terms(200)[4:] + "\x00\x02\x01b" + terms(200)[4:] + "\x01b" + terms(200)[4:]: api.OK,
		// Behind its kind's byte, ErrForm ahead.
		terms(201)[:len(terms(201))-1]: api.ErrLong, terms(201)[:len(terms(201))-2]: api.ErrShort, terms(201)[:len(terms(201))-2] + "\x08": api.ErrForm,
		levels(51)[:len(levels(51))-1]: api.ErrLong, levels(51)[:len(levels(51))-2]: api.ErrShort, levels(51)[:len(levels(51))-2] + "\x05": api.ErrForm,
	} {
		if d, e := Decode([]byte(s)); e != want || (d.Kind == 0) != (e != api.OK) {
			t.Errorf("%x: %d, not %d", s, e, want)
		}
	}
}

// halves tells the bytes of a tree of n leaves at a small depth.
func halves(n int, joint, leaf string) string {
	if n == 1 {
		return leaf
	}
	return joint + halves(n/2, joint, leaf) + halves(n-n/2, joint, leaf)
}

// nameForm is what a name looks like.
var nameForm = regexp.MustCompile(`\A[a-z][a-z0-9_.]*\z`)

// plain takes bytes as the chapter says, in the plainest way: what is wrong is
// a panic with the error.
type plain struct{ rest []byte }

func (p *plain) wrong(is bool, e api.Errno) {
	if is {
		panic(e)
	}
}

func (p *plain) byte() int {
	p.wrong(len(p.rest) == 0, api.ErrShort)
	c := p.rest[0]
	p.rest = p.rest[1:]
	return int(c)
}

func (p *plain) number() uint64 {
	n, shift := uint64(0), 0
	end := slices.IndexFunc(p.rest, func(c byte) bool { return c < 128 })
	p.wrong(end < 0, api.ErrShort)
	for i := 0; i <= end; i++ {
		c := uint64(p.byte())
		p.wrong(shift > 63 || shift == 63 && c > 1 || i == end && i > 0 && c == 0, api.ErrForm)
		n |= c % 128 << shift
		shift += 7
	}
	return n
}

func (p *plain) small() int {
	n := p.number()
	p.wrong(n > 1048576, api.ErrArg)
	return int(n)
}

func (p *plain) count(most uint64) int {
	n := p.number()
	p.wrong(n > most, api.ErrMany)
	return int(n)
}

func (p *plain) name() string {
	n := p.number()
	p.wrong(n > 32, api.ErrName)
	p.wrong(n > uint64(len(p.rest)), api.ErrShort)
	s := string(p.rest[:n])
	p.rest = p.rest[n:]
	p.wrong(!nameForm.MatchString(s), api.ErrName)
	return s
}

func (p *plain) level(depth int, count *int) api.Level {
	l := api.Level{Kind: p.byte()}
	p.wrong(l.Kind < 1 || l.Kind > 4, api.ErrForm)
	*count++
	p.wrong(depth > 32 || *count > 100, api.ErrLong)
	if l.Kind != api.LMax {
		l.N = p.small()
	}
	for range []int{1: 0, 2: 0, 3: 1, 4: 2}[l.Kind] {
		l.Kids = append(l.Kids, p.level(depth+1, count))
	}
	return l
}

func (p *plain) term(depth int, count *int) api.Term {
	t := api.Term{Kind: p.byte()}
	p.wrong(t.Kind < 1 || t.Kind > 7, api.ErrForm)
	*count++
	p.wrong(depth > 64 || *count > 400, api.ErrLong)
	switch t.Kind {
	case 1:
		t.N = p.small()
	case 2:
		t.Level = p.level(1, new(int))
	case 7:
		t.Name = p.name()
		for range p.count(6) {
			t.Levels = append(t.Levels, p.level(1, new(int)))
		}
	}
	for range []int{3: 2, 4: 2, 5: 3, 6: 2, 7: 0}[t.Kind] {
		t.Kids = append(t.Kids, p.term(depth+1, count))
	}
	return t
}

func (p *plain) decl() api.Decl {
	d := api.Decl{Kind: p.byte()}
	p.wrong(d.Kind < 1 || d.Kind > 3, api.ErrForm)
	d.Name = p.name()
	d.Vars = p.small()
	d.Type = p.term(1, new(int))
	if d.Kind == 2 {
		d.Value = p.term(1, new(int))
	}
	if d.Kind == 3 {
		d.Params = p.small()
		for range p.count(8) {
			c := api.Ctor{Name: p.name()}
			c.Type = p.term(1, new(int))
			d.Ctors = append(d.Ctors, c)
		}
	}
	return d
}

// guarded tells what f tells, and the error of a panic inside.
func guarded[T any](f func() T) (x T, e api.Errno) {
	defer func() {
		if r := recover(); r != nil {
			var none T
			x, e = none, r.(api.Errno)
		}
	}()
	return f(), api.OK
}

// plainDecode is Decode by the plain way.
func plainDecode(b []byte) (api.Decl, api.Errno) {
	return guarded(func() api.Decl {
		p := &plain{b}
		d := p.decl()
		p.wrong(len(p.rest) > 0, api.ErrForm)
		p.wrong(May(d) != api.OK, May(d))
		return d
	})
}

// plainUnbundle is Unbundle by the plain way.
func plainUnbundle(b []byte) ([]api.Decl, api.Errno) {
	return guarded(func() []api.Decl {
		p := &plain{b}
		p.wrong(len(b) > 8192, api.ErrLong)
		var l []api.Decl
		for range p.count(16) {
			l = append(l, p.decl())
		}
		p.wrong(len(p.rest) > 0, api.ErrForm)
		for _, d := range l {
			p.wrong(May(d) != api.OK, May(d))
		}
		return l
	})
}

// held takes b in both ways, and puts back what it got.
func held(t *testing.T, b []byte) api.Errno {
	t.Helper()
	d, e := Decode(b)
	want, f := plainDecode(b)
	if e != f || !reflect.DeepEqual(d, want) {
		t.Fatalf("%x: %d, not %d: %+v", b, e, f, d)
	}
	if e == api.OK {
		if again, f := Encode(d); f != api.OK || !bytes.Equal(again, b) {
			t.Fatalf("%x encoded again: %x %d", b, again, f)
		}
	}
	return e
}

// TestP9_2Short: all rows of a few bytes that could be a declaration or the
// rest of one.
func TestP9_2Short(t *testing.T) {
	some := []byte("\x00\x01\x02\x03\x04\x05\x06\x07\x08\x09aA\x7f\x80\xff")
	for _, ahead := range []string{"", "\x01\x01a", "\x01\x01a\x01", "\x02\x01a\x00\x02\x01\x00", "\x03\x01a\x00\x02\x01\x00", "\x03\x01a\x00\x02\x01\x00\x00\x01\x01b", "\x01\x01a\x01\x07\x01b"} {
		b := []byte(ahead)
		var grow func(left int)
		grow = func(left int) {
			held(t, b)
			if left == 0 {
				return
			}
			for _, c := range some {
				b = append(b, c)
				grow(left - 1)
				b = b[:len(b)-1]
			}
		}
		grow(4)
	}
}

// someName, someLevel, someTerm, someDecl are any that may be, of a depth.
func someName(r *rand.Rand) string {
	s := "abcxyz"[r.Intn(6):][:1]
	for range r.Intn(4) {
		s += "az09_."[r.Intn(6):][:1]
	}
	return s
}

func someNumber(r *rand.Rand) int {
	return []int{0, 1, 2, 3, 127, 128, 129, 16383, 16384, 1048575, 1048576}[r.Intn(11)]
}

func someLevel(r *rand.Rand, vars, depth int) api.Level {
	k := r.Intn(4)
	switch {
	case k == 0 && depth > 1:
		return lmax(someLevel(r, vars, depth-1), someLevel(r, vars, depth-1))
	case k == 1 && depth > 1:
		return lsucc(max(1, someNumber(r)), someLevel(r, vars, depth-1))
	case k == 2 && vars > 0:
		return lvar(r.Intn(vars))
	}
	return num(someNumber(r))
}

func someTerm(r *rand.Rand, vars, depth int) api.Term {
	k := r.Intn(7)
	if depth == 1 {
		k = r.Intn(3)
	}
	switch k {
	case 0:
		return vari(someNumber(r))
	case 1:
		return sort(someLevel(r, vars, 4))
	case 2:
		c := cons(someName(r))
		for range r.Intn(7) * r.Intn(2) {
			c.Levels = append(c.Levels, someLevel(r, vars, 3))
		}
		return c
	case 3:
		return let(someTerm(r, vars, depth-1), someTerm(r, vars, depth-1), someTerm(r, vars, depth-1))
	}
	return node([]int{api.TPi, api.TLam, api.TApp}[k-4], someTerm(r, vars, depth-1), someTerm(r, vars, depth-1))
}

func someDecl(r *rand.Rand, depth int) api.Decl {
	d := api.Decl{Kind: 1 + r.Intn(3), Name: someName(r), Vars: r.Intn(7)}
	d.Type = someTerm(r, d.Vars, depth)
	switch d.Kind {
	case api.DDef:
		d.Value = someTerm(r, d.Vars, depth)
	case api.DInd:
		d.Params = r.Intn(65)
		for range r.Intn(9) {
			d.Ctors = append(d.Ctors, api.Ctor{Name: someName(r), Type: someTerm(r, d.Vars, depth)})
		}
	}
	return d
}

// spoilt tells b with some bytes left out, put in or changed.
func spoilt(r *rand.Rand, b []byte) []byte {
	b = bytes.Clone(b)
	for range 1 + r.Intn(2) {
		i := r.Intn(len(b))
		c := []byte{0, 1, 2, 3, 4, 5, 6, 7, 8, 9, 16, 17, 32, 33, 65, 'a', 'A', 127, 128, 255, byte(r.Intn(256))}[r.Intn(21)]
		switch r.Intn(3) {
		case 0:
			b[i] = c
		case 1:
			b = append(b[:i:i], append([]byte{c}, b[i:]...)...)
		case 2:
			b = append(b[:i:i], b[i+1:]...)
		}
		if len(b) == 0 {
			return b
		}
	}
	return b
}

// TestP9_2Spoilt: bytes that are nearly a declaration are one just if the
// chapter says so, and else what it says.
func TestP9_2Spoilt(t *testing.T) {
	r := rand.New(rand.NewSource(1))
	met := map[api.Errno]int{}
	for range 60000 {
		b, _ := Encode(someDecl(r, 1+r.Intn(4)))
		met[held(t, spoilt(r, b))]++
	}
	for _, e := range []api.Errno{api.OK, api.ErrArg, api.ErrLong, api.ErrShort, api.ErrForm, api.ErrName, api.ErrLevels, api.ErrMany} {
		if met[e] < 50 {
			t.Error("seldom", e, met[e])
		}
	}
}

func TestP9_3Bundle(t *testing.T) {
	whole, l := "", []api.Decl(nil)
	for s, d := range cases() {
		if len(l) < 16 {
			whole, l = whole+s, append(l, d)
		}
		b, e := Bundle(l)
		if want := string(rune(len(l))) + whole; e != api.OK || string(b) != want {
			t.Fatalf("%x, not %x: %d", b, want, e)
		}
		if got, e := Unbundle(b); e != api.OK || !reflect.DeepEqual(got, l) {
			t.Fatalf("%x: %d %+v", b, e, got)
		}
	}
	for _, l := range [][]api.Decl{nil, {}} {
		if b, e := Bundle(l); e != api.OK || string(b) != "\x00" {
			t.Error(b, e)
		}
	}
	if l, e := Unbundle([]byte{0}); e != api.OK || len(l) != 0 {
		t.Error(l, e)
	}
	for i, c := range faults() {
		b, e := Bundle([]api.Decl{axiom(prop), c.d, axiom(prop)})
		if e != c.want || (b == nil) != (e != api.OK) {
			t.Errorf("%d: %d, not %d: %x", i, e, c.want, b)
		}
	}
}

func TestP9_3Limits(t *testing.T) {
	var sixteen []api.Decl
	for range 16 {
		sixteen = append(sixteen, axiom(prop))
	}
	if b, e := Bundle(sixteen); e != api.OK || len(b) != 1+16*7 {
		t.Error(len(b), e)
	}
	for i, l := range [][]api.Decl{make([]api.Decl, 17), append(sixteen, axiom(prop)), make([]api.Decl, 5000)} {
		if b, e := Bundle(l); e != api.ErrMany || b != nil {
			t.Error(i, b, e)
		}
	}
	// A constant of name32 has 35 bytes; one applied to another one 1 more.
	row := func(n int) api.Term { return balanced(n, cons(name32)) }
	full := []api.Decl{axiom(row(200)), axiom(row(27)), axiom(prop)} // 1 + (4 + 200 * 36 - 1) + (4 + 27 * 36 - 1) + 7
	for pad := range 6 {
		full[2] = named("a"+times(pad, "a"), axiom(prop))
		b, e := Bundle(full)
		if want := 8186 + pad; e != api.OK || len(b) != want {
			t.Fatal(pad, len(b), e)
		}
		if l, e := Unbundle(b); e != api.OK || !reflect.DeepEqual(l, full) {
			t.Fatal(pad, e)
		}
	}
	full[2] = named("aaaaaaa", axiom(prop))
	if b, e := Bundle(full); e != api.OK || len(b) != 8192 {
		t.Error(len(b), e)
	}
	full[2] = named("aaaaaaaa", axiom(prop))
	if b, e := Bundle(full); e != api.ErrLong || b != nil {
		t.Error(len(b), e)
	}
	// Encode's errors come ahead of the bytes that are too many.
	if b, e := Bundle(append(full, axiom(cons("A")), axiom(vari(-1)))); e != api.ErrName || b != nil {
		t.Error(len(b), e)
	}
	// One declaration by itself may have more.
	long := def(row(200), row(200))
	if b, e := Encode(long); e != api.OK || len(b) != 4+2*(200*36-1) {
		t.Error(len(b), e)
	} else if d, e := Decode(b); e != api.OK || !reflect.DeepEqual(d, long) {
		t.Error(e)
	}
	if b, e := Bundle([]api.Decl{long}); e != api.ErrLong || b != nil {
		t.Error(len(b), e)
	}
}

func TestP9_3Unbundle(t *testing.T) {
	one := "\x01\x01a\x00\x02\x01\x00"
	scope, long := "\x01\x01a\x00\x02\x02\x00", "\x01\x01a\x07\x02\x01\x00"
	for s, want := range map[string]api.Errno{
		"": api.ErrShort, "\x80": api.ErrShort, "\x80\x00": api.ErrForm, "\x10": api.ErrShort, "\x11": api.ErrMany, "\x11\x09": api.ErrMany, "\x00\x00": api.ErrForm, "\x01": api.ErrShort, "\x01\x00": api.ErrForm, "\x01" + one: api.OK, "\x01" + one + one: api.ErrForm, "\x02" + one: api.ErrShort, "\x10" + times(16, one): api.OK, "\x11" + times(17, one): api.ErrMany, "\x10" + times(17, one): api.ErrForm,
		"\x81\x00" + one: api.ErrForm, "\x02" + one + "\x01\x01A": api.ErrName, "\x02\x01\x01A\x09": api.ErrName,
		// May's errors come behind those of the bytes, wherever these stand.
		"\x01" + scope: api.ErrLevels, "\x01" + scope + "\x00": api.ErrForm, "\x02" + scope: api.ErrShort, "\x02" + scope + "\x04": api.ErrForm, "\x02" + scope + long: api.ErrLevels, "\x02" + long + scope: api.ErrLong, "\x03" + one + long + scope: api.ErrLong, "\x02" + scope + one: api.ErrLevels, "\x02" + scope + "\x01\x01a\x00\x01\x81\x80\x40": api.ErrArg,
		times(8193, "\x00"): api.ErrLong, times(8193, "\x11"): api.ErrLong, times(8192, "\x00"): api.ErrForm, times(8192, "\x11"): api.ErrMany, times(8192, "\xff"): api.ErrShort, times(8193, "\xff"): api.ErrLong,
	} {
		if l, e := Unbundle([]byte(s)); e != want || (l == nil) != (e != api.OK) {
			t.Errorf("%x: %d, not %d: %+v", s, e, want, l)
		}
	}
	for s, want := range refusals() {
		if l, e := Unbundle([]byte("\x02" + one + s)); e != want && want != api.ErrForm || l != nil {
			t.Errorf("%x: %d, not %d: %+v", s, e, want, l)
		}
	}
}

func TestP9_3Spoilt(t *testing.T) {
	r := rand.New(rand.NewSource(2))
	met := map[api.Errno]int{}
	for range 20000 {
		var l []api.Decl
		for range r.Intn(17) {
			l = append(l, someDecl(r, 1+r.Intn(2)))
		}
		b, e := Bundle(l)
		if e != api.OK {
			t.Fatal(e)
		}
		b = spoilt(r, b)
		got, e := Unbundle(b)
		want, f := plainUnbundle(b)
		if e != f || !reflect.DeepEqual(got, want) {
			t.Fatalf("%x: %d, not %d: %+v", b, e, f, got)
		}
		if again, f := Bundle(got); e == api.OK && (f != api.OK || !bytes.Equal(again, b)) {
			t.Fatalf("%x bundled again: %x %d", b, again, f)
		}
		met[e]++
	}
	for _, e := range []api.Errno{api.OK, api.ErrArg, api.ErrLong, api.ErrShort, api.ErrForm, api.ErrName, api.ErrLevels, api.ErrMany} {
		if met[e] < 20 {
			t.Error("seldom", e, met[e])
		}
	}
}

func TestP9_4Same(t *testing.T) {
	u, v := lvar(0), lvar(1)
	one, other := sort(lmax(u, lsucc(1, v))), sort(lmax(lsucc(1, v), u))
	b, c := api.Ctor{Name: "b", Type: one}, api.Ctor{Name: "c", Type: one}
	turned := api.Ctor{Name: "b", Type: other}
	junk := func(d api.Decl) api.Decl { d.Params, d.Ctors = 9, ctors(2); return d }
	value := func(d api.Decl) api.Decl { d.Value = vari(7); return d }
	great := chainOf(2001, prop)
	for i, x := range []struct {
		a, b api.Decl
		want bool
	}{
		{axiom(one), axiom(one), true}, {axiom(one), axiom(other), true}, {axiom(one), axiom(prop), false}, {axiom(one), named("b", axiom(one)), false}, {axiom(one), with(1, axiom(one)), false}, {axiom(one), def(one, api.Term{}), false}, {axiom(prop), ind(0), false},
		{axiom(one), junk(value(axiom(other))), true}, {def(one, vari(1)), def(other, vari(1)), true}, {def(one, vari(1)), def(one, vari(2)), false}, {def(vari(1), one), def(vari(1), other), true}, {def(one, vari(1)), def(prop, vari(1)), false}, {def(one, vari(1)), junk(def(one, vari(1))), true},
		{def(one, vari(1)), with(2, def(one, vari(1))), false}, {def(one, vari(1)), named("b", def(one, vari(1))), false},
		{ind(1), ind(1), true}, {ind(1), ind(2), false}, {ind(1), value(ind(1)), true}, {ind(1, b, c), ind(1, b, c), true}, {ind(1, b, c), ind(1, turned, c), true}, {ind(1, b, c), ind(1, c, b), false}, {ind(1, b, c), ind(1, b), false}, {ind(1, b), ind(1, b, c), false}, {ind(1), ind(1, b), false}, {ind(1, b), ind(1, c), false},
		{ind(1, b, c), ind(1, b, api.Ctor{Name: "c", Type: prop}), false}, {ind(1, b), named("x", ind(1, b)), false}, {ind(1, b), with(1, ind(1, b)), false},
		{ind(1, b), ind(2, b), false}, {api.Decl{Kind: api.DInd, Name: "a", Type: one}, api.Decl{Kind: api.DInd, Name: "a", Type: other, Ctors: []api.Ctor{}}, true}, {api.Decl{Kind: api.DInd, Name: "a", Type: one}, api.Decl{Kind: api.DInd, Name: "a", Type: prop}, false},
		{axiom(great), axiom(great), false}, {def(prop, great), def(prop, great), false}, {ind(0, api.Ctor{Name: "b", Type: great}), ind(0, api.Ctor{Name: "b", Type: great}), false},
	} {
		if Same(x.a, x.b) != x.want || Same(x.b, x.a) != x.want {
			t.Errorf("%d: not %v", i, x.want)
		}
	}
}

// TestP9_4NoKind: a kind that is none gives no meaning to Type, Value, Params
// and Ctors, whatever stands there; the three kinds that there are do look at
// their Type.
func TestP9_4NoKind(t *testing.T) {
	great := chainOf(2001, prop)
	kids := make([]api.Term, 2)
	kids[0], kids[1] = node(api.TApp, kids...), node(api.TApp, kids...)
	kids[0].Kids, kids[1].Kids = kids, kids
	rest := []api.Decl{{}, {Type: prop}, {Type: vari(0)}, {Type: great}, {Type: kids[0]}, {Type: prop, Value: great}, {Params: -1}, {Params: 9, Ctors: ctors(9)}, {Type: great, Value: kids[0], Params: math.MinInt, Ctors: []api.Ctor{{Name: "A", Type: great}}}}
	plain := func(kind int, name string, vars int) api.Decl { return api.Decl{Kind: kind, Name: name, Vars: vars} }
	none := []int{0, -1, 4, 257, math.MinInt, math.MaxInt}
	for i, kind := range none {
		for _, name := range []string{"", "a", "A b"} {
			for j, d := range rest {
				d.Kind, d.Name, d.Vars = kind, name, -7
				for k, x := range rest {
					x.Kind, x.Name, x.Vars = kind, name, -7
					if !Same(d, x) {
						t.Errorf("kind %d, name %q: %d and %d are not the same", kind, name, j, k)
					}
				}
				for k, x := range []api.Decl{plain(none[(i+1)%len(none)], name, -7), plain(api.DAxiom, name, -7), plain(kind, name+"x", -7), plain(kind, name, -6)} {
					if Same(d, x) || Same(x, d) {
						t.Errorf("kind %d, name %q: %d is the same as other %d", kind, name, j, k)
					}
				}
			}
		}
	}
	for kind := api.DAxiom; kind <= api.DInd; kind++ {
		d := api.Decl{Kind: kind, Name: "a", Type: prop, Value: prop}
		for i, x := range []api.Term{vari(0), {}, great, kids[0]} {
			other := d
			other.Type = x
			if Same(d, other) || Same(other, d) {
				t.Errorf("kind %d: Type %d is not looked at", kind, i)
			}
		}
		if d.Type = great; Same(d, d) {
			t.Errorf("kind %d: a Type that is too great is the same as itself", kind)
		}
	}
}

// TestP9_5Back: Decode of Encode, level by level; cut off anywhere it is
// ErrShort.
func TestP9_5Back(t *testing.T) {
	r := rand.New(rand.NewSource(3))
	for i := range 2000 {
		d := someDecl(r, 1+r.Intn(5))
		if May(d) != api.OK {
			continue
		}
		b, e := Encode(d)
		got, f := Decode(b)
		if e != api.OK || f != api.OK || !Same(got, d) || !reflect.DeepEqual(got, d) {
			t.Fatalf("%+v: %d %d %+v", d, e, f, got)
		}
		if i > 300 {
			continue
		}
		for n := range b {
			if x, e := Decode(b[:n]); e != api.ErrShort || !reflect.DeepEqual(x, api.Decl{}) {
				t.Fatalf("%x: %d", b[:n], e)
			}
		}
	}
}

func TestP9_5Bundles(t *testing.T) {
	r := rand.New(rand.NewSource(4))
	for range 100 {
		var l []api.Decl
		for range r.Intn(17) {
			l = append(l, someDecl(r, 2))
		}
		b, e := Bundle(l)
		got, f := Unbundle(b)
		if e != api.OK || f != api.OK || !reflect.DeepEqual(got, l) {
			t.Fatalf("%+v: %d %d %+v", l, e, f, got)
		}
		for n := range b {
			if x, e := Unbundle(b[:n]); e != api.ErrShort || x != nil {
				t.Fatalf("%x: %d", b[:n], e)
			}
		}
	}
}

// memory notes each element of the lists of declarations, with what lies
// behind their lengths.
type memory map[any]int

func (m memory) decls(l []api.Decl) {
	all := l[:cap(l)]
	for i := range all {
		m[&all[i]]++
	}
	for _, d := range l {
		m.terms([]api.Term{d.Type, d.Value})
		cs := d.Ctors[:cap(d.Ctors)]
		for i := range cs {
			m[&cs[i]]++
		}
		for _, c := range d.Ctors {
			m.terms([]api.Term{c.Type})
		}
	}
}

func (m memory) terms(ts []api.Term) {
	all := ts[:cap(ts)]
	for i := range all {
		m[&all[i]]++
	}
	for _, t := range ts {
		m.terms(t.Kids)
		m.levels(t.Levels)
		m.levels(t.Level.Kids)
	}
}

func (m memory) levels(ls []api.Level) {
	all := ls[:cap(ls)]
	for i := range all {
		m[&all[i]]++
	}
	for _, l := range ls {
		m.levels(l.Kids)
	}
}

func TestR2Out(t *testing.T) {
	r := rand.New(rand.NewSource(5))
	for range 200 {
		l := []api.Decl{someDecl(r, 3), someDecl(r, 3)}
		b, _ := Bundle(l)
		kept := bytes.Clone(b)
		x, _ := Unbundle(b)
		y, _ := Unbundle(b)
		m := memory{}
		m.decls(x)
		m.decls(y)
		for _, n := range m {
			if n > 1 {
				t.Fatalf("two lists share memory: %x", b)
			}
		}
		clear(b)
		if !reflect.DeepEqual(x, l) || !reflect.DeepEqual(y, l) {
			t.Fatalf("what was taken hangs on the bytes: %x", kept)
		}
		one, _ := Encode(l[0])
		two, _ := Encode(l[0])
		clear(one)
		if three, _ := Encode(l[0]); !bytes.Equal(two, three) || bytes.Equal(one, two) {
			t.Fatal("two answers share memory")
		}
	}
}

func TestR2In(t *testing.T) {
	r := rand.New(rand.NewSource(6))
	for range 200 {
		cs := append(ctors(2), api.Ctor{Name: "A"})
		kids := []api.Term{someTerm(r, 1, 3), someTerm(r, 1, 3), {Kind: -3}}
		levels := []api.Level{someLevel(r, 1, 3), {Kind: -3}}
		kids[1] = cons("a", levels[:1]...)
		l := []api.Decl{with(1, ind(0, cs[:2]...)), with(1, axiom(node(api.TPi, kids[:2]...))), {Kind: 9}}
		before := fmt.Sprintf("%+v %+v %+v %+v", cs, kids, levels, l)
		b, e := Bundle(l[:2])
		if e != api.OK || May(l[0]) != api.OK || May(l[1]) != api.OK || !Same(l[1], l[1]) {
			t.Fatal("what lies behind a list's length was read:", e)
		}
		if _, e := Encode(l[0]); e != api.OK || fmt.Sprintf("%+v %+v %+v %+v", cs, kids, levels, l) != before {
			t.Fatal("what was handed in has changed")
		}
		wide := append(bytes.Clone(b), 1, 2, 3)
		got, e := Unbundle(wide[:len(b)])
		if e != api.OK || !reflect.DeepEqual(got, l[:2]) || !bytes.Equal(wide, append(bytes.Clone(b), 1, 2, 3)) {
			t.Fatal("bytes that were handed in:", e)
		}
	}
}

// TestR3Ends: terms and levels without an end, in each place of a declaration.
func TestR3Ends(t *testing.T) {
	kids := make([]api.Term, 2)
	kids[0], kids[1] = node(api.TApp, kids...), node(api.TApp, kids...)
	kids[0].Kids, kids[1].Kids = kids, kids
	up := make([]api.Level, 1)
	up[0] = levelKids(api.LSucc, 1, up...)
	up[0].Kids = up
	for i, x := range []api.Term{kids[0], sort(up[0]), cons("a", up...)} {
		for _, d := range []api.Decl{axiom(x), def(prop, x), ind(0, api.Ctor{Name: "c", Type: x})} {
			b, e := Encode(d)
			c, f := Bundle([]api.Decl{d})
			if May(d) != api.ErrLong || e != api.ErrLong || f != api.ErrLong || b != nil || c != nil || Same(d, d) {
				t.Error(i, d.Kind, e, f)
			}
		}
	}
	for _, d := range []api.Decl{{}, {Kind: math.MinInt}, {Kind: api.DInd, Ctors: make([]api.Ctor, 1<<16)}} {
		if _, e := Encode(d); e == api.OK || !Same(d, d) {
			t.Error(d.Kind, e)
		}
	}
}

func TestR6FieldsWithoutMeaning(t *testing.T) {
	full := func(kind int, kids ...api.Term) api.Term {
		return api.Term{Kind: kind, N: 3, Name: "n", Level: levelKids(api.LMax, -5, num(1), num(2)), Levels: []api.Level{lvar(0)}, Kids: kids}
	}
	odd, more := full(api.TVar), full(api.TSort)
	odd.Name, odd.Level, odd.Levels = "A b", num(-1), make([]api.Level, 9)
	more.N, more.Name, more.Levels = -1, "", []api.Level{num(-1)}
	d := api.Decl{Kind: api.DAxiom, Name: "a", Vars: 1, Type: full(api.TApp, odd, full(api.TLam, more, full(api.TConst))), Value: vari(-1), Params: -4, Ctors: ctors(9)}
	b, e := Encode(d)
	if want := "\x01\x01a\x01\x06\x01\x03\x04\x02\x04\x01\x01\x01\x02\x07\x01n\x01\x02\x00"; e != api.OK || string(b) != want {
		t.Errorf("%x, not %x: %d", b, want, e)
	}
	got, e := Decode(b)
	if want := with(1, axiom(app(vari(3), lam(sort(lmax(num(1), num(2))), cons("n", lvar(0)))))); e != api.OK || !reflect.DeepEqual(got, want) || !Same(got, d) {
		t.Errorf("%d %+v", e, got)
	}
}

// TestGreat: the greatest declarations that may be: their bytes are told, and
// back, without going over all of them at each node.
func TestGreat(t *testing.T) {
	l := lsucc(1048576, levelTree(50, num(1048576)))
	d := ind(0)
	d.Type = balanced(200, cons(name32, l, l, l, l, l, l))
	for range 8 {
		d.Ctors = append(d.Ctors, api.Ctor{Name: name32, Type: d.Type})
	}
	b, e := Encode(d)
	got, f := Decode(b)
	if e != api.OK || f != api.OK || !Same(got, d) || !reflect.DeepEqual(got, d) {
		t.Fatal(len(b), e, f)
	}
	var many []api.Decl
	for range 16 {
		many = append(many, d)
	}
	if _, e := Bundle(many); e != api.ErrLong {
		t.Error(e)
	}
}
