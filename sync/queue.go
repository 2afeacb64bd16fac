package sync

import (
	"iter"
	"slices"
)

// queue is things in the order in which they came.
type queue[T comparable] struct{ items []T }

// put lays a thing behind all others.
func (q *queue[T]) put(x T) { q.items = append(q.items, x) }

// take takes out the first one, if there is one. The others move up, so that no more is kept than is there.
func (q *queue[T]) take() (T, bool) {
	if len(q.items) == 0 {
		var none T
		return none, false
	}
	first := q.items[0]
	q.items = slices.Delete(q.items, 0, 1)
	return first, true
}

// each goes over the things, the first one first.
func (q *queue[T]) each() iter.Seq[T] { return slices.Values(q.items) }

// part moves the things to memory of the queue's own.
func (q *queue[T]) part() { q.items = slices.Clone(q.items) }

func (q queue[T]) alike(r queue[T]) bool { return slices.Equal(q.items, r.items) }
