package graph

import (
	"gitlike/api"
	"gitlike/idorder"
)

// queue is the nodes that may come next in an order, as package container/heap keeps them: the next one is the one with the greatest time, and among those with the greatest id. It hands them back as values of any kind.
type queue []api.Node

func (q queue) Len() int { return len(q) }

func (q queue) Less(i, k int) bool {
	if q[i].Time != q[k].Time {
		return q[i].Time > q[k].Time
	}
	return idorder.Compare(q[i].ID, q[k].ID) > 0
}

func (q queue) Swap(i, k int) { q[i], q[k] = q[k], q[i] }

// Push lays a node behind the others.
func (q *queue) Push(x any) { *q = append(*q, x.(api.Node)) }

// Pop takes the last one.
func (q *queue) Pop() any {
	last := len(*q) - 1
	n := (*q)[last]
	*q = (*q)[:last]
	return n
}
