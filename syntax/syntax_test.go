package syntax

import (
	"fmt"
	"math"
	"math/rand"
	"reflect"
	"regexp"
	"strings"
	"testing"

	"assize/api"
	"assize/level"
	"assize/term"
)

// The terms of these tests are written out as data, so that no call that is
// tested stands on another one.
func vari(n int) api.Term { return api.Term{Kind: api.TVar, N: n} }
func cons(name string, ls ...api.Level) api.Term {
	return api.Term{Kind: api.TConst, Name: name, Levels: ls}
}
func sort(l api.Level) api.Term          { return api.Term{Kind: api.TSort, Level: l} }
func pi(a, b api.Term) api.Term          { return node(api.TPi, a, b) }
func lam(a, b api.Term) api.Term         { return node(api.TLam, a, b) }
func let(a, v, b api.Term) api.Term      { return node(api.TLet, a, v, b) }
func app(f, a api.Term) api.Term         { return node(api.TApp, f, a) }
func num(n int) api.Level                { return api.Level{Kind: api.LNum, N: n} }
func lvar(i int) api.Level               { return api.Level{Kind: api.LVar, N: i} }
func lsucc(n int, l api.Level) api.Level { return levelNode(api.LSucc, n, l) }
func lmax(a, b api.Level) api.Level      { return levelNode(api.LMax, 0, a, b) }
func node(kind int, kids ...api.Term) api.Term {
	return api.Term{Kind: kind, Kids: kids}
}
func levelNode(kind, n int, kids ...api.Level) api.Level {
	return api.Level{Kind: kind, N: n, Kids: kids}
}

// times tells a text so many times, one behind the other.
func times(n int, s string) string { return strings.Repeat(s, n) }

// name32 is a name as long as one may be.
var name32 = "n" + times(31, "9")

// chainOf is a term of depth n: a binder in a binder, .. around last.
func chainOf(n int, last api.Term) api.Term {
	for range n - 1 {
		last = lam(cons("a"), last)
	}
	return last
}

// balanced has n leaves, so 2n - 1 nodes, at a small depth.
func balanced(n int, leaf api.Term) api.Term {
	if n == 1 {
		return leaf
	}
	return app(balanced(n/2, leaf), balanced(n-n/2, leaf))
}

// levelChain is a level of depth n.
func levelChain(n int) api.Level {
	l := lvar(0)
	for range n - 1 {
		l = lsucc(1, l)
	}
	return l
}

// levelTree has n leaves, so 2n - 1 nodes, at a small depth.
func levelTree(n int) api.Level {
	if n == 1 {
		return num(7)
	}
	return lmax(levelTree(n/2), levelTree(n-n/2))
}

// levelCases are levels that may be, and their texts.
func levelCases() map[string]api.Level {
	return map[string]api.Level{
		"0": num(0), "7": num(7), "10": num(10), "1048576": num(1048576), "u0": lvar(0), "u10": lvar(10), "u1048576": lvar(1048576),
		"(+ 1 0)": lsucc(1, num(0)), "(+ 1048576 1048576)": lsucc(1048576, num(1048576)), "(+ 1 (+ 2 u3))": lsucc(1, lsucc(2, lvar(3))),
		"(max 0 0)": lmax(num(0), num(0)), "(max u1 u0)": lmax(lvar(1), lvar(0)), "(max (max 1 2) (+ 3 (max u4 5)))": lmax(lmax(num(1), num(2)), lsucc(3, lmax(lvar(4), num(5)))),
		times(31, "(+ 1 ") + "u0" + times(31, ")"): levelChain(32),
	}
}

// termCases are terms that may be, and their texts.
func termCases() map[string]api.Term {
	f, a, b := cons("f"), cons("a"), cons("b")
	return map[string]api.Term{
		"#0": vari(0), "#10": vari(10), "#1048576": vari(1048576), "nat": cons("nat"), "x.y_9": cons("x.y_9"), name32: cons(name32),
		"u0": cons("u0"), "sort": cons("sort"), "pi": cons("pi"), "lam": cons("lam"), "let": cons("let"), "at": cons("at"), "app": cons("app"), "max": cons("max"),
		"(sort 0)": sort(num(0)), "(sort u3)": sort(lvar(3)), "(sort (+ 2 (max u0 1)))": sort(lsucc(2, lmax(lvar(0), num(1)))),
		"(at c 0)": cons("c", num(0)), "(at c 0 u3 (max 1 (+ 2 u0)))": cons("c", num(0), lvar(3), lmax(num(1), lsucc(2, lvar(0)))), "(at at 1 2 3 4 5 u6)": cons("at", num(1), num(2), num(3), num(4), num(5), lvar(6)), "(at u0 u0)": cons("u0", lvar(0)),
		"(pi a b)": pi(a, b), "(lam a #0)": lam(a, vari(0)), "(let a b #0)": let(a, b, vari(0)), "(pi pi pi)": pi(cons("pi"), cons("pi")), "(let let (let a b f) let)": let(cons("let"), let(a, b, f), cons("let")),
		"(app f a)": app(f, a), "(app f a b f)": app(app(app(f, a), b), f), "(app app app)": app(cons("app"), cons("app")), "(app f (app a b))": app(f, app(a, b)), "(app f (app a b) (app b a))": app(app(f, app(a, b)), app(b, a)),
		"(app (lam a #0) b f)": app(app(lam(a, vari(0)), b), f), "(lam (app f a b) (app f #0))": lam(app(app(f, a), b), app(f, vari(0))), "(app (at f 1) a)": app(cons("f", num(1)), a), "(app #3 (sort 1))": app(vari(3), sort(num(1))),
		"(app f (lam nat #0) (sort (+ 1 u1)))":       app(app(f, lam(cons("nat"), vari(0))), sort(lsucc(1, lvar(1)))),
		times(63, "(lam a ") + "#5" + times(63, ")"): chainOf(64, vari(5)),
	}
}

func TestP8_1LevelText(t *testing.T) {
	for s, l := range levelCases() {
		if got := LevelText(l); got != s {
			t.Errorf("%q, not %q", got, s)
		}
	}
}

func TestP8_1Text(t *testing.T) {
	for s, x := range termCases() {
		if got := Text(x); got != s {
			t.Errorf("%q, not %q", got, s)
		}
	}
}

// unlevels are levels that may not be, and what May tells of them.
func unlevels() map[string]api.Level {
	return map[string]api.Level{
		"none": {}, "kind 5": {Kind: 5}, "kind -1": {Kind: -1}, "below 0": num(-1), "great": num(1048577), "greatest": num(math.MaxInt), "variable below 0": lvar(-1), "great variable": lvar(1048577),
		"no more": lsucc(0, num(1)), "less": lsucc(-1, num(1)), "far more": lsucc(1048577, num(1)), "more of none": {Kind: api.LSucc, N: 1}, "more of two": levelNode(api.LSucc, 1, num(1), num(1)),
		"max of one": levelNode(api.LMax, 0, num(1)), "max of three": levelNode(api.LMax, 0, num(1), num(1), num(1)), "number with a kid": levelNode(api.LNum, 1, num(1)), "variable with a kid": levelNode(api.LVar, 1, num(1)),
		"deep": levelChain(33), "wide": levelTree(51), "inside": lmax(num(1), lsucc(1, num(-1))),
	}
}

func TestP8_1NothingOfLevels(t *testing.T) {
	for what, l := range unlevels() {
		if got := LevelText(l); got != "" {
			t.Error(what, got)
		}
		for i, x := range []api.Term{sort(l), cons("a", l), cons("a", num(1), l), lam(sort(l), vari(0))} {
			if got := Text(x); got != "" {
				t.Error(what, i, got)
			}
		}
	}
	if LevelText(levelTree(50)) == "" || LevelText(levelChain(32)) == "" || Text(sort(levelTree(50))) == "" {
		t.Error("levels that just may be")
	}
}

func TestP8_1NothingOfTerms(t *testing.T) {
	seven := []api.Level{num(0), num(0), num(0), num(0), num(0), num(0), num(0)}
	for what, x := range map[string]api.Term{
		"none": {}, "kind 8": {Kind: 8}, "below 0": vari(-1), "great": vari(1048577), "variable with a kid": node(api.TVar, vari(0)), "sort with a kid": {Kind: api.TSort, Level: num(0), Kids: []api.Term{vari(0)}}, "constant with a kid": {Kind: api.TConst, Name: "a", Kids: []api.Term{vari(0)}},
		"pi of one": node(api.TPi, vari(0)), "pi of three": node(api.TPi, vari(0), vari(0), vari(0)), "lam of none": node(api.TLam), "let of two": node(api.TLet, vari(0), vari(0)), "app of one": node(api.TApp, vari(0)), "app of three": node(api.TApp, vari(0), vari(0), vari(0)),
		"no name": cons(""), "great letter": cons("A"), "digit first": cons("9a"), "blank": cons("a b"), "parenthesis": cons("a)"), "long name": cons(name32 + "9"), "seven levels": cons("a", seven...),
		"deep": chainOf(65, vari(0)), "wide": balanced(201, vari(0)), "inside": app(cons("a"), lam(cons("a"), vari(-1))),
	} {
		if got := Text(x); got != "" {
			t.Error(what, got)
		}
	}
	if Text(chainOf(64, vari(0))) == "" || Text(balanced(200, vari(0))) == "" || Text(cons("a", seven[1:]...)) == "" {
		t.Error("terms that just may be")
	}
}

// TestP8_1Long: a text may be longer than one that is read.
func TestP8_1Long(t *testing.T) {
	l := levelTree(50)
	s := Text(balanced(200, cons(name32, l, l, l, l, l, l)))
	if strings.Count(s, name32) != 200 || strings.Count(s, " 7") != 200*300 {
		t.Error(len(s))
	}
	refused(t, Parse, api.ErrLong, s)
}

func TestP8_2ParseLevel(t *testing.T) {
	for s, want := range levelCases() {
		l, e := ParseLevel(s)
		if e != api.OK || !reflect.DeepEqual(l, want) {
			t.Errorf("%q: %v %+v", s, e, l)
		}
	}
}

func TestP8_2Parse(t *testing.T) {
	for s, want := range termCases() {
		x, e := Parse(s)
		if e != api.OK || !reflect.DeepEqual(x, want) {
			t.Errorf("%q: %v %+v", s, e, x)
		}
	}
	// Applications that are applied are one spine, however they are said.
	x, e := Parse("(app (app (app f a)) b)")
	if e != api.ErrForm || !reflect.DeepEqual(x, api.Term{}) {
		t.Error(e, x)
	}
	x, e = Parse("(app (app (app f a) b) a (app b))")
	if e != api.ErrForm || !reflect.DeepEqual(x, api.Term{}) {
		t.Error(e, x)
	}
	x, e = Parse("(app (app (app f a) b) f)")
	if e != api.OK || !reflect.DeepEqual(x, termCases()["(app f a b f)"]) {
		t.Error(e, x)
	}
}

// refused asks for the error of each text, and for nothing beside it.
func refused[T any](t *testing.T, parse func(string) (T, api.Errno), want api.Errno, texts ...string) {
	t.Helper()
	var none T
	for _, s := range texts {
		x, e := parse(s)
		if e != want || e != api.OK && !reflect.DeepEqual(x, none) {
			t.Errorf("%.60q (%d bytes): %v, not %v: %.60s", s, len(s), e, want, fmt.Sprintf("%+v", x))
		}
	}
}

func TestP8_2LevelForm(t *testing.T) {
	refused(t, ParseLevel, api.ErrForm, "", " ", "\t\n ", "(", ")", "()", "(())", "u", "u ", "u 0", "U0", "u00", "u01", "u-1", "u+1", "uu0", "00", "01", "-1", "-0", "+1", "1_0", "0x1", "1.0", "1e3", "a", "#0", "+", "max", "1 1", "u0 u0", "1)", "(1)", "(u0)", "((1))",
		"(+)", "(+ 1)", "(+ u0)", "(+ u0 1)", "(+ 1 2 3)", "(+ 01 2)", "(+ -1 2)", "(+ (1) u0)", "(+ (+ 1 1) 1)", "(+1 u0)", "(1 + u0)", "(+ 1 a)", "(+ 1 ())", "(+ 1 u0", "+ 1 u0", "(+ 1 u0))", "(+ 1 u0) 1", "1 (+ 1 u0)", "((+ 1 u0))", "((+) 1 u0)",
		"(max)", "(max 1)", "(max 1 2 3)", "(max 1 a)", "(max a 1)", "(max 1 2", "(max (max 1 2) 3", "(Max 1 2)", "(maxx 1 2)", "(max1 2)", "(sort 1)", "(app 1 2)", "(max (sort 1) 1)", "1\r", "1\v", "\ufeff1", "1\u00a01", "1\x00", "١")
}

func TestP8_2Form(t *testing.T) {
	refused(t, Parse, api.ErrForm, "", " ", "\n\t ", "(", ")", "()", "(())", ")(", "#", "# 0", "##0", "#00", "#01", "#-1", "#+1", "#a", "#0#", "#1.0", "0", "17", "-1", "A", "aB", "a-b", "é", "aé", "\xff", "a\xff", "_a", ".a", "9a", "a b", "#0 #0", "a)", "(a", "a ()", "() a", "(a)", "(#0)", "((a))", name32+"9", "(app f "+name32+"9)", "a\r", "a\v", "a\f", "\ufeffa", "a\u00a0b", "a\x00", "١",
		"(sort)", "(sort 0 0)", "(sort a)", "(sort #0)", "(sort u)", "(sort -1)", "(sort 00)", "(sort (s u1))", "(sort (sort 0))", "(sort (0))", "(sort ())", "(sort 0", "(sort 0))", "sort 0", "(sort0)", "(Sort 0)", "((sort) 0)", "((sort 0))",
		"(pi)", "(pi a)", "(pi a b c)", "(pi a 0)", "(pi 0 a)", "(pi (sort 0 a) b)", "(lam)", "(lam a)", "(lam a b c)", "(lam () a)", "(lam a ())", "(let)", "(let a)", "(let a b)", "(let a b c d)", "(let a b 0)", "(let (a) b c)",
		"(at)", "(at c)", "(at C 0)", "(at "+name32+"9 0)", "(at #0 0)", "(at 0 0)", "(at (c) 0)", "(at (at c 0) 0)", "(at c a)", "(at c 0 a)", "(at c #0)", "(at c (sort 0))", "(at c ())", "(at c 0", "at c 0", "(at () 0)",
		"(app)", "(app f)", "(app f 0)", "(app 0 f)", "(app f ())", "(app () f)", "(app (f) a)", "(app (app f) a)", "(app f a", "(app f a))", "app f a", "(app f a) b", "a (app f b)", "((app f a))", "((app f) a)", "(f a)", "(apps f a)", "(APP f a)", "(max 0 0)", "(+ 1 u0)", "(app f (max 0 0))", "(f (app f a))", "(app f#0 )", "(app f a;b)",
		times(8000, "("), times(8192, ")"), times(4096, "()"), times(4096, "(")+times(4096, ")"), times(2000, "(app")+times(100, ")"))
}

// TestP8_2FormFirst: a text that is no term is refused as such, also where
// what it says ahead of the fault may not be.
func TestP8_2FormFirst(t *testing.T) {
	deep := times(100, "(lam a ")
	refused(t, Parse, api.ErrForm, "(app #1048577 A)", "(app (sort 1048577) 0)", "(app (sort u1048577) f", "(pi (at c 0 0 0 0 0 0 0) b c)", deep+"A"+times(100, ")"), deep+"a"+times(99, ")"), deep+"a"+times(101, ")"), "(app"+times(500, " a")+" B)", "#1048577 #0", "(at C 0 0 0 0 0 0 0)")
	refused(t, ParseLevel, api.ErrForm, "(max 1048577 a)", "(+ 0 u01)", "(max u1048577 1", times(50, "(+ 1 ")+"x"+times(50, ")"))
	refused(t, Parse, api.ErrLong, times(8193, "("), times(8192, " ")+"A", times(8193, "\xff"))
	refused(t, ParseLevel, api.ErrLong, times(8193, "("), times(8192, " ")+"x")
}

func TestP8_2Bytes(t *testing.T) {
	if x, e := Parse(times(8191, " ") + "a"); e != api.OK || !reflect.DeepEqual(x, cons("a")) {
		t.Error(e)
	}
	if l, e := ParseLevel("1" + times(8191, "\n")); e != api.OK || !reflect.DeepEqual(l, num(1)) {
		t.Error(e)
	}
	refused(t, Parse, api.ErrLong, times(8192, " ")+"a", "a"+times(8192, " "), times(8193, " "), times(1<<20, "a"), "("+times(8192, " "))
	refused(t, ParseLevel, api.ErrLong, times(8192, " ")+"1", "1"+times(8192, "\t"), times(8193, "1"))
}

func TestP8_2Numbers(t *testing.T) {
	long := times(8000, "9")
	for _, n := range []string{"1048577", "1048580", "2097152", "10485760", "9223372036854775807", "9223372036854775808", "18446744073709551616", "18446744073709551617", "99999999999999999999999999", long} {
		refused(t, Parse, api.ErrArg, "#"+n, "(sort "+n+")", "(sort (+ "+n+" u0))", "(at c 0 "+n+")", "(lam a #"+n+")")
		refused(t, Parse, api.ErrLevels, "(sort u"+n+")", "(at c u"+n+")", "(sort (+ 1 u"+n+"))")
		refused(t, ParseLevel, api.ErrArg, n, "(+ "+n+" 1)", "(max 1 "+n+")", "(max "+n+" 1)")
		refused(t, ParseLevel, api.ErrLevels, "u"+n, "(max 1 u"+n+")")
		refused(t, Parse, api.ErrForm, "#0"+n, "(sort 0"+n+")", "#-"+n, "#"+n+"a")
	}
	for n := range 2000 {
		n += 1048576 - 1000
		want := []api.Errno{api.ErrArg, api.ErrArg, api.ErrLevels}
		if n <= 1048576 {
			want = make([]api.Errno, 3)
		}
		x, e0 := Parse(fmt.Sprint("#", n))
		_, e1 := ParseLevel(fmt.Sprint("(+ ", n, " ", n, ")"))
		_, e2 := ParseLevel(fmt.Sprint("u", n))
		if !reflect.DeepEqual([]api.Errno{e0, e1, e2}, want) || e0 == api.OK && x.N != n {
			t.Fatal(n, e0, e1, e2)
		}
	}
	refused(t, ParseLevel, api.ErrArg, "(+ 0 u0)", "(+ 0 u1048577)", "(max (+ 0 1) 1)")
	refused(t, Parse, api.ErrArg, "(sort (+ 0 u0))", "(at c (+ 0 0))")
}

func TestP8_2Great(t *testing.T) {
	args := func(n int) string { return "(app" + times(n, " a") + ")" }
	refused(t, Parse, api.OK, args(64), times(63, "(lam a ")+"a"+times(63, ")"), "(sort "+times(31, "(+ 1 ")+"u0"+times(31, ")")+")", "(at c 0 0 0 0 0 0)")
	refused(t, Parse, api.ErrLong, args(65), args(66), args(2000), args(2001), args(4090), times(64, "(lam a ")+"a"+times(64, ")"), times(1300, "(pi a")+" a"+times(1300, ")"), times(1000, "(app ")+"a"+times(1000, " a)"),
		"(sort "+times(32, "(+ 1 ")+"u0"+times(32, ")")+")", "(at c "+times(1300, "(+ 1")+" 0"+times(1300, ")")+")", "(at c 0 0 0 0 0 0 0)", "(at c"+times(4000, " 1")+")")
	refused(t, ParseLevel, api.OK, times(31, "(+ 1 ")+"u0"+times(31, ")"))
	refused(t, ParseLevel, api.ErrLong, times(32, "(+ 1 ")+"u0"+times(32, ")"), times(1300, "(max 1")+" 0"+times(1300, ")"))
	for n, want := range map[int]api.Errno{199: api.OK, 200: api.OK, 201: api.ErrLong, 800: api.ErrLong} {
		refused(t, Parse, want, plainText(balanced(n, cons("a"))), "(lam a "+plainText(balanced(n-1, vari(0)))+")")
	}
	refused(t, Parse, api.ErrLong, "(let a b "+plainText(balanced(200, vari(0)))+")")
	refused(t, Parse, api.OK, "(let a b "+plainText(balanced(199, vari(0)))+")")
	for n, want := range map[int]api.Errno{50: api.OK, 51: api.ErrLong, 500: api.ErrLong} {
		refused(t, ParseLevel, want, plainLevel(levelTree(n)))
		refused(t, Parse, want, "(at c 0 "+plainLevel(levelTree(n))+")", "(sort "+plainLevel(levelTree(n))+")")
	}
}

// TestP8_2First: of several errors of May's the first is told that it meets.
func TestP8_2First(t *testing.T) {
	refused(t, Parse, api.ErrArg, "(app #1048577 (sort u1048577))", "(lam (sort (+ 0 u1048577)) (at c 0 0 0 0 0 0 0))", "(app (app #1048577 a) (sort u1048577))")
	refused(t, Parse, api.ErrLevels, "(app (sort u1048577) #1048577)", "(let a (at c u1048577 1048577) #1048577)", "(app f (sort (max u1048577 1048577)))")
	refused(t, Parse, api.ErrLong, "(app (at c 1048577 u1048577 0 0 0 0 0) #1048577)", "(app #1048577"+times(64, " a")+")", "(app "+times(63, "(pi a ")+"(pi #1048577 a)"+times(63, ")")+" #1048577)")
	refused(t, Parse, api.ErrArg, "(app f #1048577 "+times(64, "(pi a ")+"a"+times(64, ")")+")")
	refused(t, ParseLevel, api.ErrLevels, "(max u1048577 1048577)")
	refused(t, ParseLevel, api.ErrArg, "(max 1048577 u1048577)", "(max (+ 0 u1048577) 1)")
}

// TestP8_2EveryByte: which bytes part words, and which may be alone, or behind
// a letter, or in a number.
func TestP8_2EveryByte(t *testing.T) {
	const lower, behind = "abcdefghijklmnopqrstuvwxyz", "0123456789_."
	for c := range 256 {
		s := string([]byte{byte(c)})
		blank, letter := strings.Contains(" \t\n", s), strings.Contains(lower, s)
		for what, ok := range map[string]bool{
			s: letter, s + "a": blank || letter, "a" + s: blank || letter || strings.Contains(behind, s), "(app" + s + "f a)": blank, "(app f" + s + "a)": blank, "(app f a" + s + ")": blank || letter || strings.Contains(behind, s),
			"#1" + s: blank || c >= '0' && c <= '9', "#" + s: c >= '0' && c <= '9', "#0" + s: blank, "(app f #0" + s + "#0)": blank, s + "(sort 0)": blank, "(sort" + s + "0)": blank, "(sort 0" + s + ")": blank, "(sort 0)" + s: blank, "(sort (max" + s + "0 0))": blank, "(" + s + "sort 0)": blank,
		} {
			want := api.ErrForm
			if ok {
				want = api.OK
			}
			refused(t, Parse, want, what)
		}
	}
	refused(t, Parse, api.OK, "(app f(sort 0)a(lam a b))", "(sort(max(+ 1 2)3))", "(at c(max 1 1)2(+ 1 1)u0)")
}

// plainText tells t by way of the library and term.Spine; LevelText likewise.
func plainText(t api.Term) string {
	all := func(sign string, ts []api.Term) string {
		for _, x := range ts {
			sign += " " + plainText(x)
		}
		return "(" + sign + ")"
	}
	switch t.Kind {
	case api.TVar:
		return fmt.Sprint("#", t.N)
	case api.TSort:
		return "(sort " + plainLevel(t.Level) + ")"
	case api.TApp:
		head, args := term.Spine(t)
		return all("app", append([]api.Term{head}, args...))
	case api.TConst:
		s := t.Name
		for _, l := range t.Levels {
			s += " " + plainLevel(l)
		}
		if len(t.Levels) > 0 {
			return "(at " + s + ")"
		}
		return s
	}
	return all(map[int]string{api.TPi: "pi", api.TLam: "lam", api.TLet: "let"}[t.Kind], t.Kids)
}

func plainLevel(l api.Level) string {
	switch l.Kind {
	case api.LNum:
		return fmt.Sprint(l.N)
	case api.LVar:
		return fmt.Sprint("u", l.N)
	case api.LSucc:
		return fmt.Sprint("(+ ", l.N, " ", plainLevel(l.Kids[0]), ")")
	}
	return "(max " + plainLevel(l.Kids[0]) + " " + plainLevel(l.Kids[1]) + ")"
}

// some tells a term by chance, at most deep deep.
func some(r *rand.Rand, deep int) api.Term {
	kid := func() api.Term { return some(r, deep-1) }
	if deep <= 1 || r.Intn(6) == 0 {
		names := []string{"a", "b.c", "c_9", "u1", "pi", "app", "sort", "max", name32}
		switch r.Intn(5) {
		case 0:
			return sort(someLevel(r, 4))
		case 1:
			var ls []api.Level
			for range 1 + r.Intn(6) {
				ls = append(ls, someLevel(r, 3))
			}
			return cons(names[r.Intn(len(names))], ls...)
		case 2:
			return cons(names[r.Intn(len(names))])
		}
		return vari([]int{0, 1, 7, 10, 1048576}[r.Intn(5)])
	}
	switch r.Intn(6) {
	case 0:
		return pi(kid(), kid())
	case 1:
		return lam(kid(), kid())
	case 2:
		return let(kid(), kid(), kid())
	}
	return app(kid(), kid())
}

func someLevel(r *rand.Rand, deep int) api.Level {
	n := []int{0, 1, 9, 10, 1048576}[r.Intn(5)]
	switch k := r.Intn(5); {
	case deep > 1 && k == 0:
		return lsucc(max(n, 1), someLevel(r, deep-1))
	case deep > 1 && k < 3:
		return lmax(someLevel(r, deep-1), someLevel(r, deep-1))
	case k == 3:
		return lvar(n)
	}
	return num(n)
}

// TestP8_3Back: what is told of a term is read as it, and is what plainText
// tells.
func TestP8_3Back(t *testing.T) {
	r := rand.New(rand.NewSource(1))
	seen := 0
	for range 6000 {
		x := some(r, 1+r.Intn(8))
		s := Text(x)
		if term.May(x, 1048577) != api.OK {
			if s != "" {
				t.Fatal(s)
			}
			continue
		}
		if s != plainText(x) {
			t.Fatalf("%q, not %q", s, plainText(x))
		}
		if len(s) > api.MaxBundle {
			refused(t, Parse, api.ErrLong, s)
			continue
		}
		seen++
		if got, e := Parse(s); e != api.OK || !reflect.DeepEqual(got, x) {
			t.Fatalf("%q: %v", s, e)
		}
	}
	if seen < 4000 {
		t.Error("seldom", seen)
	}
	for range 6000 {
		l := someLevel(r, 1+r.Intn(6))
		s := LevelText(l)
		if got, e := ParseLevel(s); s != plainLevel(l) || e != api.OK || !reflect.DeepEqual(got, l) {
			t.Fatalf("%q: %v", s, e)
		}
	}
}

// words parts a text into words and parentheses.
var words = regexp.MustCompile(`[()]|[^() \t\n]+`)

// blank tells so much white space by chance, at least least.
func blank(r *rand.Rand, least int) string {
	s := ""
	for range least + r.Intn(3) {
		s += []string{" ", "\t", "\n"}[r.Intn(3)]
	}
	return s
}

// spread tells the same words and parentheses with other white space.
func spread(r *rand.Rand, s string) string {
	out, last := blank(r, 0), "("
	for _, w := range words.FindAllString(s, -1) {
		if strings.Contains("()", w) || strings.Contains("()", last) {
			out += blank(r, 0) + w
		} else {
			out += blank(r, 1) + w
		}
		last = w
	}
	return out + blank(r, 0)
}

func TestP8_3WhiteSpace(t *testing.T) {
	r := rand.New(rand.NewSource(2))
	tight := regexp.MustCompile(` ?([()]) ?`)
	for range 4000 {
		x := some(r, 1+r.Intn(5))
		s := Text(x)
		for _, other := range []string{spread(r, s), spread(r, s), tight.ReplaceAllString(s, "$1")} {
			if len(other) > api.MaxBundle {
				continue
			}
			if got, e := Parse(other); e != api.OK || !reflect.DeepEqual(got, x) {
				t.Fatalf("%q: %v", other, e)
			}
		}
		l := someLevel(r, 5)
		if got, e := ParseLevel(spread(r, LevelText(l))); e != api.OK || !reflect.DeepEqual(got, l) {
			t.Fatalf("%q: %v", LevelText(l), e)
		}
	}
}

// rules are the grammar as what may be put in the place of what: each pattern
// stands for the mark beside it (marks are in no text that is tried).
func rules() (all []*regexp.Regexp, marks []string) {
	decimal, name := `(?:0|[1-9][0-9]*)`, `[a-z][a-z0-9_.]{0,31}`
	lev, trm := `(?:u?`+decimal+`|!L)`, `(?:#`+decimal+`|`+name+`|!T)`
	for _, x := range [][2]string{
		{`\( \+ ` + decimal + ` ` + lev + ` \)`, "!L"}, {`\( max ` + lev + ` ` + lev + ` \)`, "!L"},
		{`\( sort ` + lev + ` \)`, "!T"}, {`\( (?:pi|lam) ` + trm + ` ` + trm + ` \)`, "!T"}, {`\( let ` + trm + ` ` + trm + ` ` + trm + ` \)`, "!T"},
		{`\( at ` + name + `(?: ` + lev + `)+ \)`, "!T"}, {`\( app ` + trm + `(?: ` + trm + `)+ \)`, "!T"},
		{`^` + lev + `$`, "!!L"}, {`^` + trm + `$`, "!!T"},
	} {
		all, marks = append(all, regexp.MustCompile(x[0])), append(marks, x[1])
	}
	return all, marks
}

// kinds tells whether a text is a term, and whether it is a level.
func kinds(s string, all []*regexp.Regexp, marks []string) (isTerm, isLevel bool) {
	s = strings.Join(words.FindAllString(s, -1), " ")
	last := len(all) - 2
	for was := ""; was != s; {
		was = s
		for i := range last {
			s = all[i].ReplaceAllString(s, marks[i])
		}
	}
	return all[last+1].MatchString(s), all[last].MatchString(s)
}

// spoilt tells a text with some words and bytes left out, put in or changed.
func spoilt(r *rand.Rand, s string) string {
	ws := words.FindAllString(s, -1)
	put := []string{"(", ")", "a", "#0", "#01", "0", "01", "u0", "app", "at", "sort", "pi", "lam", "let", "max", "+", "A", "#", "1048577", "u1048577", "( app f", ") )", "\r"}
	for range 1 + r.Intn(2) {
		i, w := r.Intn(len(ws)+1), put[r.Intn(len(put))]
		switch r.Intn(4) {
		case 0:
			ws = append(ws[:i:i], append([]string{w}, ws[i:]...)...)
		case 1:
			if i < len(ws) {
				ws = append(ws[:i:i], ws[i+1:]...)
			}
		case 2:
			if i < len(ws) {
				ws[i] = w
			}
		case 3:
			j := r.Intn(len(ws) + 1)
			if i < len(ws) && j < len(ws) {
				ws[i], ws[j] = ws[j], ws[i]
			}
		}
	}
	return strings.Join(ws, " ")
}

// TestP8_2Spoilt: a text that is nearly a term or a level is one just if the
// grammar says so.
func TestP8_2Spoilt(t *testing.T) {
	r := rand.New(rand.NewSource(3))
	all, marks := rules()
	good, bad := 0, 0
	for i := range 40000 {
		s := plainText(some(r, 1+r.Intn(4)))
		if i%3 == 0 {
			s = plainLevel(someLevel(r, 1+r.Intn(4)))
		}
		s = spoilt(r, s)
		if len(s) > api.MaxBundle {
			continue
		}
		isTerm, isLevel := kinds(s, all, marks)
		x, e := Parse(s)
		l, f := ParseLevel(s)
		if (e != api.ErrForm) != isTerm || (f != api.ErrForm) != isLevel || e != api.OK && !reflect.DeepEqual(x, api.Term{}) || f != api.OK && !reflect.DeepEqual(l, api.Level{}) {
			t.Fatalf("%q: %v %v, %v %v", s, e, isTerm, f, isLevel)
		}
		if isTerm || isLevel {
			good++
		} else {
			bad++
		}
		if e == api.OK && term.May(x, 1048577) != api.OK || f == api.OK && level.May(l, 1048577) != api.OK {
			t.Fatalf("%q: what may not be", s)
		}
	}
	if good < 2000 || bad < 2000 {
		t.Error("seldom", good, bad)
	}
}

// memory notes each element of the lists of a term, with what lies behind
// their lengths.
type memory struct {
	terms  map[*api.Term]int
	levels map[*api.Level]int
}

func (m memory) note(ts []api.Term) {
	all := ts[:cap(ts)]
	for i := range all {
		m.terms[&all[i]]++
	}
	for _, t := range ts {
		m.note(t.Kids)
		m.noteLevels(t.Levels)
		m.noteLevels(t.Level.Kids)
	}
}

func (m memory) noteLevels(ls []api.Level) {
	all := ls[:cap(ls)]
	for i := range all {
		m.levels[&all[i]]++
	}
	for _, l := range ls {
		m.noteLevels(l.Kids)
	}
}

func TestR2Out(t *testing.T) {
	r := rand.New(rand.NewSource(4))
	for range 500 {
		s := Text(some(r, 6))
		x, _ := Parse(s)
		y, _ := Parse(s)
		m := memory{map[*api.Term]int{}, map[*api.Level]int{}}
		m.note([]api.Term{x, y})
		for _, n := range m.terms {
			if n > 1 {
				t.Fatal("two lists share memory:", s)
			}
		}
		for _, n := range m.levels {
			if n > 1 {
				t.Fatal("two lists of levels share memory:", s)
			}
		}
	}
}

func TestR2In(t *testing.T) {
	r := rand.New(rand.NewSource(5))
	for range 300 {
		kids := []api.Term{some(r, 5), some(r, 5), {Kind: -3}}
		levels := []api.Level{someLevel(r, 4), {Kind: -3}}
		x := app(node(api.TPi, kids[:2]...), cons("a", levels[:1]...))
		x.Kids[0].Kids = kids[:2]
		x.Kids[1].Levels = levels[:1]
		before := fmt.Sprintf("%+v %+v %+v", x, kids, levels)
		s := Text(x)
		LevelText(levels[0])
		if fmt.Sprintf("%+v %+v %+v", x, kids, levels) != before {
			t.Fatal("what was handed in has changed")
		}
		if term.May(x, 1048577) == api.OK && s != plainText(x) {
			t.Fatal("what lies behind a list's length was read:", s)
		}
	}
}

func TestR2NilAndEmpty(t *testing.T) {
	x := api.Term{Kind: api.TConst, Name: "a", Levels: []api.Level{}, Kids: []api.Term{}}
	if Text(x) != "a" || LevelText(api.Level{Kind: api.LNum, N: 3, Kids: []api.Level{}}) != "3" || Text(api.Term{Kind: api.TVar, Kids: []api.Term{}}) != "#0" {
		t.Error("an empty list")
	}
}

func TestR6FieldsWithoutMeaning(t *testing.T) {
	full := func(kind int, kids ...api.Term) api.Term {
		return api.Term{Kind: kind, N: 3, Name: "n", Level: lmax(num(1), num(2)), Levels: []api.Level{lvar(0)}, Kids: kids}
	}
	odd := full(api.TVar)
	odd.Name, odd.Level, odd.Levels = "A b", num(-1), make([]api.Level, 9)
	more := full(api.TSort)
	more.N, more.Name, more.Levels = -1, ")", []api.Level{num(-1)}
	x := full(api.TLet, odd, full(api.TApp, full(api.TApp, more, full(api.TConst)), full(api.TPi, odd, odd)), full(api.TLam, odd, odd))
	if got, want := Text(x), "(let #3 (app (sort (max 1 2)) (at n u0) (pi #3 #3)) (lam #3 #3))"; got != want {
		t.Errorf("%q, not %q", got, want)
	}
	if got := LevelText(levelNode(api.LMax, -5, num(1), num(2))); got != "(max 1 2)" {
		t.Error(got)
	}
}

// TestR3Ends: terms and levels without an end, and with more nodes than there
// is memory.
func TestR3Ends(t *testing.T) {
	for _, kind := range []int{api.TPi, api.TLam, api.TLet, api.TApp} {
		n := 2
		if kind == api.TLet {
			n = 3
		}
		kids := make([]api.Term, n)
		for i := range kids {
			kids[i] = vari(0)
		}
		for i := range kids {
			kids[i] = api.Term{Kind: kind, Kids: kids}
			if got := Text(kids[i]); got != "" {
				t.Error(kind, i, len(got))
			}
		}
	}
	wide := vari(0)
	for range 60 {
		wide = app(wide, wide)
	}
	up := make([]api.Level, 2)
	up[0], up[1] = levelNode(api.LMax, 0, up...), levelNode(api.LSucc, 1, up[:1]...)
	up[0].Kids, up[1].Kids = up, up[:1]
	if Text(wide) != "" || LevelText(up[0]) != "" || LevelText(up[1]) != "" || Text(sort(up[0])) != "" || Text(cons("a", num(1), up[1])) != "" {
		t.Error("what has no end")
	}
}
