// Package gen: sequences, sets and tables of any type: see ../../shared/doc/01-gen.md.
package gen

import (
	"iter"
	"slices"
)

// sound makes every sequence safe to range over, whoever wrote it: without it
// a nil one would panic, and so would one that calls a yield that said false.
func sound[T any](s iter.Seq[T]) iter.Seq[T] {
	return func(yield func(T) bool) {
		if s == nil || yield == nil {
			return
		}
		over := false
		s(func(x T) bool {
			over = over || !yield(x)
			return !over
		})
		over = true // s may have kept its yield, and call it later
	}
}

// Of tells l's elements, as l is now.
func Of[T any](l []T) iter.Seq[T] {
	return sound(slices.Values(slices.Clone(l)))
}

// Count tells 0, 1, .. below n.
func Count(n int) iter.Seq[int] {
	return sound(func(yield func(int) bool) {
		for i := range n {
			if !yield(i) {
				return
			}
		}
	})
}

// Map tells f of each element.
func Map[T, U any](s iter.Seq[T], f func(T) U) iter.Seq[U] {
	return sound(func(yield func(U) bool) {
		if f == nil {
			return
		}
		for x := range sound(s) {
			if !yield(f(x)) {
				return
			}
		}
	})
}

// Keep tells the elements for which f holds.
func Keep[T any](s iter.Seq[T], f func(T) bool) iter.Seq[T] {
	return sound(func(yield func(T) bool) {
		if f == nil {
			return
		}
		for x := range sound(s) {
			if f(x) && !yield(x) {
				return
			}
		}
	})
}

// Take tells the first n elements, and asks for no further one.
func Take[T any](s iter.Seq[T], n int) iter.Seq[T] {
	return sound(func(yield func(T) bool) {
		if n < 1 {
			return
		}
		left := n
		for x := range sound(s) {
			left--
			if !yield(x) || left == 0 {
				return
			}
		}
	})
}

// Drop tells the elements behind the first n.
func Drop[T any](s iter.Seq[T], n int) iter.Seq[T] {
	return sound(func(yield func(T) bool) {
		left := n
		for x := range sound(s) {
			if left > 0 {
				left--
				continue
			}
			if !yield(x) {
				return
			}
		}
	})
}

// Chain tells the elements of each sequence, one behind the other.
func Chain[T any](l ...iter.Seq[T]) iter.Seq[T] {
	return Each(Of(l), func(s iter.Seq[T]) iter.Seq[T] { return s })
}

// Each tells the elements of f of each element, one behind the other.
func Each[T, U any](s iter.Seq[T], f func(T) iter.Seq[U]) iter.Seq[U] {
	return sound(func(yield func(U) bool) {
		if f == nil {
			return
		}
		for x := range sound(s) {
			for y := range sound(f(x)) {
				if !yield(y) {
					return
				}
			}
		}
	})
}

// Collect lists the first elements, at most most.
func Collect[T any](s iter.Seq[T], most int) []T {
	return slices.Collect(Take(s, most))
}

// Fold is f(.. f(f(a, first), second) ..).
func Fold[T, A any](s iter.Seq[T], a A, f func(A, T) A) A {
	if f == nil {
		return a
	}
	for x := range sound(s) {
		a = f(a, x)
	}
	return a
}

// First is the first element for which f holds.
func First[T any](s iter.Seq[T], f func(T) bool) (T, bool) {
	for x := range Keep(s, f) {
		return x, true
	}
	var none T
	return none, false
}
