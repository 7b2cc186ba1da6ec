package probe

import (
	"container/heap"
	"slices"

	"affidavit/api"
)

// reading is what is due when a read is: no client has that number.
const reading = api.MaxClients

// due is a client, or reading, and the tick at which it is due.
type due struct {
	tick, what int
}

// ahead tells whether it is told ahead of another one.
func (d due) ahead(other due) bool {
	if d.tick != other.tick {
		return d.tick < other.tick
	}
	return d.what < other.what
}

// queue is a heap, for container/heap, in the order that it is made with.
type queue struct {
	list  []due
	ahead func(a, b due) bool
}

// Len tells how many wait.
func (q *queue) Len() int { return len(q.list) }

// Less tells whether one stands ahead of another one.
func (q *queue) Less(i, j int) bool { return q.ahead(q.list[i], q.list[j]) }

// Swap lets two change places.
func (q *queue) Swap(i, j int) { q.list[i], q.list[j] = q.list[j], q.list[i] }

// Push puts one at the list's end.
func (q *queue) Push(x any) {
	if d, is := x.(due); is {
		q.list = append(q.list, d)
	}
}

// Pop takes the one at the list's end.
func (q *queue) Pop() any {
	end := len(q.list) - 1
	d := q.list[end]
	q.list = q.list[:end]
	return d
}

// place tells where something stands in the list.
func (q *queue) place(what int) int {
	return slices.IndexFunc(q.list, func(d due) bool { return d.what == what })
}

// move says that something is due at another tick than it was.
func (q *queue) move(what, tick int) {
	i := q.place(what)
	q.list[i].tick = tick
	heap.Fix(q, i)
}
