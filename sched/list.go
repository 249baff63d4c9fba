package sched

import "slices"

// list is a run queue: items in the order in which they leave it. Its methods return another list, and leave the items of this one where they are.
type list[T comparable] []T

// insert returns the list with an item behind all those that go ahead of it.
func (l list[T]) insert(x T, ahead func(T) bool) list[T] {
	at := 0
	for at < len(l) && ahead(l[at]) {
		at++
	}
	// Without room behind the first part, append copies it.
	return append(append(l[:at:at], x), l[at:]...)
}

// without returns the list without an item.
func (l list[T]) without(x T) list[T] {
	at := slices.Index(l, x)
	if at < 0 {
		return l
	}
	return append(l[:at:at], l[at+1:]...)
}
