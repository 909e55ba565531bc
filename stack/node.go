package stack

import (
	"treadle/cell"
	"treadle/gate"
)

// node is two cells, each of which it calls by its own methods.
type node struct {
	next
	value
}

// newNode: one that lies on the node of that number.
func newNode(below int64) node { return node{next{cell.New(below)}, value{cell.New(0)}} }

// next is a node's cell that says on which node it lies: on that of this number, on none if it is 0.
type next struct{ *cell.Cell }

func (x next) below(t *gate.Thread) int64  { return x.Load(t) }
func (x next) lie(t *gate.Thread, k int64) { x.Store(t, k) }

// value is a node's cell of what was pushed.
type value struct{ *cell.Cell }

func (x value) held(t *gate.Thread) int64    { return x.Load(t) }
func (x value) hold(t *gate.Thread, v int64) { x.Store(t, v) }
