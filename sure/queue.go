package sure

import (
	"container/heap"
	"sort"
)

// queue is a heap of the numbers of instructions that have to be visited, each of them once.
type queue struct {
	sort.IntSlice
	waits []bool
}

// newQueue is an empty queue of the numbers below many.
func newQueue(many int) *queue { return &queue{waits: make([]bool, many)} }

// Push and Pop are what container/heap asks for: at the end of the slice.
func (q *queue) Push(n any) { q.IntSlice = append(q.IntSlice, n.(int)) }

func (q *queue) Pop() any {
	last := len(q.IntSlice) - 1
	n := q.IntSlice[last]
	q.IntSlice = q.IntSlice[:last]
	return n
}

// add puts a number into the queue, unless it is there.
func (q *queue) add(n int) {
	if !q.waits[n] {
		q.waits[n] = true
		heap.Push(q, n)
	}
}

// take takes the lowest number out of the queue: lower ones first, since most instructions follow the one above them.
func (q *queue) take() int {
	n := heap.Pop(q).(int)
	q.waits[n] = false
	return n
}
