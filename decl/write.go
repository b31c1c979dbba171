package decl

import (
	"assize/api"
	"assize/wire"
)

// The functions of this file put a thing, which may be, behind b, in b's own
// room if there is some: wire's own would copy b, and so at each number of a
// great term all that stands ahead of it.

// putDecl puts d behind b.
func putDecl(b []byte, d api.Decl) []byte {
	b = append(b, byte(d.Kind))
	b = putName(b, d.Name)
	b = putNumber(b, d.Vars)
	b = putTerm(b, d.Type)
	switch d.Kind {
	case api.DDef:
		b = putTerm(b, d.Value)
	case api.DInd:
		b = putNumber(b, d.Params)
		b = putList(b, d.Ctors, putCtor)
	}
	return b
}

// putCtor puts c behind b.
func putCtor(b []byte, c api.Ctor) []byte {
	return putTerm(putName(b, c.Name), c.Type)
}

// putTerm puts t behind b.
func putTerm(b []byte, t api.Term) []byte {
	b = append(b, byte(t.Kind))
	switch t.Kind {
	case api.TVar:
		b = putNumber(b, t.N)
	case api.TSort:
		b = putLevel(b, t.Level)
	case api.TConst:
		b = putName(b, t.Name)
		b = putList(b, t.Levels, putLevel)
	}
	for _, kid := range t.Kids {
		b = putTerm(b, kid)
	}
	return b
}

// putLevel puts l behind b.
func putLevel(b []byte, l api.Level) []byte {
	b = append(b, byte(l.Kind))
	if hasNumber(l.Kind) {
		b = putNumber(b, l.N)
	}
	for _, kid := range l.Kids {
		b = putLevel(b, kid)
	}
	return b
}

// hasNumber tells whether levels of that kind have a number.
func hasNumber(kind int) bool {
	return kind == api.LNum || kind == api.LVar || kind == api.LSucc
}

// putNumber puts n behind b.
func putNumber(b []byte, n int) []byte {
	return append(b, wire.Put(nil, uint64(n))...)
}

// putName puts a name behind b.
func putName(b []byte, name string) []byte {
	return append(b, wire.PutBytes(nil, []byte(name))...)
}

// putList puts l, each element as put puts it, behind b.
func putList[T any](b []byte, l []T, put func([]byte, T) []byte) []byte {
	return append(b, wire.PutList(nil, l, put)...)
}
