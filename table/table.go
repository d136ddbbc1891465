// Package table has what lists that stand in an order have in common; all that it answers is new memory.
package table

import "slices"

// Rising tells whether each thing is ahead of the next one.
func Rising[T any](l []T, ahead func(a, b T) bool) bool {
	for i := 1; i < len(l); i++ {
		if !ahead(l[i-1], l[i]) {
			return false
		}
	}
	return true
}

// Find answers the first thing that is the one.
func Find[T any](l []T, is func(T) bool) (T, bool) {
	i := slices.IndexFunc(l, is)
	if i < 0 {
		var none T
		return none, false
	}
	return l[i], true
}

// Put answers a list in which a thing stands, in place of the one that is neither ahead of it nor behind.
func Put[T any](l []T, x T, ahead func(a, b T) bool) []T {
	at := slices.IndexFunc(l, func(y T) bool { return !ahead(y, x) })
	if at < 0 {
		return append(slices.Clone(l), x)
	}
	if ahead(x, l[at]) {
		return slices.Insert(slices.Clone(l), at, x)
	}
	return Set(l, at, x)
}

// Set answers a list in which a thing stands at a place.
func Set[T any](l []T, at int, x T) []T {
	out := slices.Clone(l)
	out[at] = x
	return out
}

// Drop answers a list without things.
func Drop[T any](l []T, is func(T) bool) []T {
	return slices.DeleteFunc(slices.Clone(l), is)
}
