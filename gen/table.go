package gen

import (
	"cmp"
	"iter"
	"maps"
	"slices"
)

// pair is a key with its value, so that one list tells both.
type pair[K cmp.Ordered, V any] struct {
	key   K
	value V
}

// Table keeps a value for each key. Its zero value is empty and ready.
type Table[K cmp.Ordered, V any] struct {
	pairs map[K]pair[K, V]
}

// NewTable makes an empty table.
func NewTable[K cmp.Ordered, V any]() *Table[K, V] {
	return &Table[K, V]{}
}

// Put lays v down by k, instead of an elder value.
func (t *Table[K, V]) Put(k K, v V) {
	if t == nil {
		return
	}
	if t.pairs == nil {
		t.pairs = map[K]pair[K, V]{}
	}
	t.pairs[k] = pair[K, V]{key: k, value: v}
}

// Get tells k's value, and whether it was there.
func (t *Table[K, V]) Get(k K) (V, bool) {
	if t == nil {
		var none V
		return none, false
	}
	p, ok := t.pairs[k]
	return p.value, ok
}

// Delete takes k away, and tells whether it was there.
func (t *Table[K, V]) Delete(k K) bool {
	if _, ok := t.Get(k); !ok {
		return false
	}
	delete(t.pairs, k)
	return true
}

// Len tells how many keys there are.
func (t *Table[K, V]) Len() int {
	if t == nil {
		return 0
	}
	return len(t.pairs)
}

// Keys tells the keys, rising, as they are now.
func (t *Table[K, V]) Keys() iter.Seq[K] {
	return Map(Of(t.sorted()), func(p pair[K, V]) K { return p.key })
}

// All tells keys and values, rising by key, as they are now.
func (t *Table[K, V]) All() iter.Seq2[K, V] {
	pairs := t.sorted()
	return func(yield func(K, V) bool) {
		if yield == nil {
			return
		}
		for _, p := range pairs {
			if !yield(p.key, p.value) {
				return
			}
		}
	}
}

// sorted lists the pairs anew: a sequence tells what was there when it was made.
func (t *Table[K, V]) sorted() []pair[K, V] {
	if t == nil {
		return nil
	}
	return slices.SortedFunc(maps.Values(t.pairs), func(a, b pair[K, V]) int {
		return cmp.Compare(a.key, b.key)
	})
}
