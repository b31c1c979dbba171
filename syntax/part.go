package syntax

import (
	"iter"
	"strings"
)

// What ends a word.
const (
	blanks = " \t\n"
	opens  = "("
	closes = ")"
)

// part is what texts are made of: a word, or (where that is empty) a list of
// parts between parentheses.
type part struct {
	word string
	list []part
}

// listOf tells the list of a sign and what stands behind it.
func listOf(sign string, rest ...part) part {
	return part{list: append([]part{{word: sign}}, rest...)}
}

// split tells the sign that a list begins with, or none, and what stands
// behind it.
func (p part) split() (string, []part) {
	if len(p.list) == 0 {
		return "", nil
	}
	return p.list[0].word, p.list[1:]
}

// write puts p's text behind b.
func (p part) write(b *strings.Builder) {
	if p.word != "" {
		b.WriteString(p.word)
		return
	}
	b.WriteString(opens)
	for i, kid := range p.list {
		if i > 0 {
			b.WriteByte(' ')
		}
		kid.write(b)
	}
	b.WriteString(closes)
}

// each tells what say makes of each of these, and whether it makes something
// of all of them.
func each[T any](these []part, say func(part) (T, bool)) ([]T, bool) {
	var all []T
	for _, p := range these {
		x, ok := say(p)
		if !ok {
			return nil, false
		}
		all = append(all, x)
	}
	return all, true
}

// reader is what is still to be read of a text.
type reader struct {
	rest string
}

// read tells the part that s, all of it, is, and whether it is one.
func read(s string) (part, bool) {
	r := &reader{rest: s}
	p, ok := r.part(r.next())
	return p, ok && r.next() == ""
}

// tokens goes over the words and parentheses that are still to be read. Each
// is gone from the reader when it is told: so a range inside another one
// begins where that stands, and that goes on where the inner one stopped.
func (r *reader) tokens() iter.Seq[string] {
	return func(yield func(string) bool) {
		for token := r.next(); token != ""; token = r.next() {
			if !yield(token) {
				return
			}
		}
	}
}

// next takes the next word or parenthesis; at the end it tells nothing.
func (r *reader) next() string {
	s := strings.TrimLeft(r.rest, blanks)
	n := strings.IndexAny(s, blanks+opens+closes)
	switch n {
	case -1:
		n = len(s)
	case 0: // a parenthesis: there is no blank any more
		n = 1
	}
	r.rest = s[n:]
	return s[:n]
}

// part tells the part that begins with token, behind which the reader stands,
// and whether there is one.
func (r *reader) part(token string) (part, bool) {
	switch token {
	case "", closes:
		return part{}, false
	case opens:
		return r.list()
	}
	return part{word: token}, true
}

// list tells the list behind whose first parenthesis the reader stands, and
// whether it is closed.
func (r *reader) list() (part, bool) {
	var out part
	for token := range r.tokens() {
		if token == closes {
			return out, true
		}
		kid, ok := r.part(token)
		if !ok {
			break
		}
		out.list = append(out.list, kid)
	}
	return part{}, false
}
