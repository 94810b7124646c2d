package stream

import "slices"

// queue is bytes that are taken in the order in which they were added.
type queue struct{ bytes []byte }

func (q *queue) isEmpty() bool { return len(q.bytes) == 0 }

func (q *queue) add(b []byte) { q.bytes = append(q.bytes, b...) }

// take takes the first bytes out, at most so many.
func (q *queue) take(most int) []byte {
	count := min(most, len(q.bytes))
	b := slices.Clone(q.bytes[:count])
	q.bytes = q.bytes[count:]
	return b
}
