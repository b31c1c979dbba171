package syntax

import (
	"strconv"
	"strings"

	"assize/api"
	"assize/term"
)

// The signs of terms.
const (
	signBound = "#"
	signSort  = "sort"
	signPi    = "pi"
	signLam   = "lam"
	signLet   = "let"
	signAt    = "at"
	signApp   = "app"
)

// termPart tells t, which may be, as a part.
func termPart(t api.Term) part {
	switch t.Kind {
	case api.TVar:
		return part{word: signBound + strconv.Itoa(t.N)}
	case api.TSort:
		return listOf(signSort, levelPart(t.Level))
	case api.TPi:
		return listOf(signPi, termParts(t.Kids)...)
	case api.TLam:
		return listOf(signLam, termParts(t.Kids)...)
	case api.TLet:
		return listOf(signLet, termParts(t.Kids)...)
	case api.TApp:
		return listOf(signApp, spineParts(t)...)
	}
	return constPart(t)
}

// termParts tells each of these as a part.
func termParts(ts []api.Term) []part {
	var parts []part
	for _, t := range ts {
		parts = append(parts, termPart(t))
	}
	return parts
}

// spineParts tells what is applied at the left end of t, and its arguments.
// term.Spine would copy them, at each application in them anew.
func spineParts(t api.Term) []part {
	if t.Kind != api.TApp {
		return []part{termPart(t)}
	}
	return append(spineParts(t.Kids[0]), termPart(t.Kids[1]))
}

// constPart tells a constant as a part.
func constPart(t api.Term) part {
	name := part{word: t.Name}
	if len(t.Levels) == 0 {
		return name
	}
	parts := []part{name}
	for _, l := range t.Levels {
		parts = append(parts, levelPart(l))
	}
	return listOf(signAt, parts...)
}

// toTerm tells the term that p is by the grammar, and whether it is one.
func toTerm(p part) (api.Term, bool) {
	if p.word != "" {
		return wordTerm(p.word)
	}
	sign, rest := p.split()
	switch sign {
	case signSort:
		return toSort(rest)
	case signPi:
		return toNode(api.TPi, 2, rest)
	case signLam:
		return toNode(api.TLam, 2, rest)
	case signLet:
		return toNode(api.TLet, 3, rest)
	case signAt:
		return toConst(rest)
	case signApp:
		return toApp(rest)
	}
	return api.Term{}, false
}

// wordTerm tells the term that a word is, and whether it is one.
func wordTerm(word string) (api.Term, bool) {
	if digits, ok := strings.CutPrefix(word, signBound); ok {
		n, ok := decimal(digits)
		return term.Var(n), ok
	}
	return nameTerm(word)
}

// nameTerm tells the constant of a name, and whether it is a name.
func nameTerm(word string) (api.Term, bool) {
	// A piece of the text would keep all of it.
	return term.Const(strings.Clone(word)), term.Name(word)
}

// toSort tells the universe whose level these are, and whether they are one.
func toSort(parts []part) (api.Term, bool) {
	ls, ok := each(parts, toLevel)
	if !ok || len(ls) != 1 {
		return api.Term{}, false
	}
	return api.Term{Kind: api.TSort, Level: ls[0]}, true
}

// toNode tells the term of that kind whose kids these are, and whether they
// are so many terms.
func toNode(kind, kids int, parts []part) (api.Term, bool) {
	ts, ok := each(parts, toTerm)
	return api.Term{Kind: kind, Kids: ts}, ok && len(ts) == kids
}

// toConst tells the constant whose name and levels these are, and whether they
// are a name and one level or more.
func toConst(parts []part) (api.Term, bool) {
	if len(parts) < 2 {
		return api.Term{}, false
	}
	t, isName := nameTerm(parts[0].word)
	ls, ok := each(parts[1:], toLevel)
	t.Levels = ls
	return t, isName && ok
}

// toApp tells the first one of these applied to the others, and whether they
// are two terms or more. term.Apps would not do: it tells no term where there
// are very many arguments, and so term.May not what it must.
func toApp(parts []part) (api.Term, bool) {
	ts, ok := each(parts, toTerm)
	if !ok || len(ts) < 2 {
		return api.Term{}, false
	}
	t := ts[0]
	for _, a := range ts[1:] {
		t = api.Term{Kind: api.TApp, Kids: []api.Term{t, a}}
	}
	return t, true
}
