package gen

import (
	"cmp"
	"iter"
)

// Set is a set. Its zero value is empty and ready.
type Set[T cmp.Ordered] struct {
	table Table[T, struct{}]
}

// NewSet makes a set of l's elements.
func NewSet[T cmp.Ordered](l ...T) *Set[T] {
	s := &Set[T]{}
	for _, x := range l {
		s.Add(x)
	}
	return s
}

// Add puts x in, and tells whether it was new.
func (s *Set[T]) Add(x T) bool {
	if s == nil || s.Has(x) {
		return false
	}
	s.table.Put(x, struct{}{})
	return true
}

// Remove takes x out, and tells whether it was there.
func (s *Set[T]) Remove(x T) bool {
	return s != nil && s.table.Delete(x)
}

// Has tells whether x is in.
func (s *Set[T]) Has(x T) bool {
	if s == nil {
		return false
	}
	_, ok := s.table.Get(x)
	return ok
}

// Len tells how many elements there are.
func (s *Set[T]) Len() int {
	if s == nil {
		return 0
	}
	return s.table.Len()
}

// All tells the elements, rising, as they are now.
func (s *Set[T]) All() iter.Seq[T] {
	if s == nil {
		return Of[T](nil)
	}
	return s.table.Keys()
}
