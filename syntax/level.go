package syntax

import (
	"strconv"
	"strings"

	"assize/api"
	"assize/level"
)

// The signs of levels.
const (
	signPlus = "+"
	signMax  = "max"
	signVar  = "u"
)

// levelPart tells l, which may be, as a part.
func levelPart(l api.Level) part {
	switch l.Kind {
	case api.LNum:
		return part{word: strconv.Itoa(l.N)}
	case api.LVar:
		return part{word: signVar + strconv.Itoa(l.N)}
	case api.LSucc:
		return listOf(signPlus, part{word: strconv.Itoa(l.N)}, levelPart(l.Kids[0]))
	}
	return listOf(signMax, levelPart(l.Kids[0]), levelPart(l.Kids[1]))
}

// toLevel tells the level that p is by the grammar, and whether it is one.
// level.Plus would not do: it makes one of two that stand in one another.
func toLevel(p part) (api.Level, bool) {
	if p.word != "" {
		return wordLevel(p.word)
	}
	sign, rest := p.split()
	if len(rest) != 2 {
		return api.Level{}, false
	}
	switch sign {
	case signPlus:
		n, isNumber := decimal(rest[0].word)
		l, ok := toLevel(rest[1])
		return api.Level{Kind: api.LSucc, N: n, Kids: []api.Level{l}}, isNumber && ok
	case signMax:
		kids, ok := each(rest, toLevel)
		return api.Level{Kind: api.LMax, Kids: kids}, ok
	}
	return api.Level{}, false
}

// wordLevel tells the level that a word is, and whether it is one.
func wordLevel(word string) (api.Level, bool) {
	if digits, ok := strings.CutPrefix(word, signVar); ok {
		i, ok := decimal(digits)
		return level.Var(i), ok
	}
	n, ok := decimal(word)
	return level.Num(n), ok
}

// decimal tells the number that a word is, and whether it is one. However long
// it is, nothing wraps: what is above mostNumber is 1 more than that, which
// may not be either.
func decimal(word string) (int, bool) {
	if word == "" || word[0] == '0' && word != "0" {
		return 0, false
	}
	n := 0
	for i := range len(word) {
		c := word[i]
		if c < '0' || c > '9' {
			return 0, false
		}
		n = min(10*n+int(c-'0'), mostNumber+1)
	}
	return n, true
}
