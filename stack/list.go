package stack

import (
	"treadle/cell"
	"treadle/gate"
)

// list is a cell that says which node is on top, and holds a tag.
type list struct{ *cell.Cell }

func newList(top int64) list { return list{cell.New(top)} }

func (l list) head(t *gate.Thread) head { return head(l.Load(t)) }

// change lays k in the place of the head that the list is thought to have: whether it has it.
func (l list) change(t *gate.Thread, from head, k int64) bool {
	return l.Cas(t, int64(from), int64(from.with(k)))
}

const (
	nodeBits = 16
	nodeMask = 1<<nodeBits - 1
)

// head is what a list's cell holds: in its lower bits the number of the node on top, 0 if the list is empty; above them the tag, by which a node that came back to the top is not taken for the one that was there.
type head uint64

// node: on top.
func (h head) node() int64 { return int64(h & nodeMask) }

// with: the next tag, and k on top.
func (h head) with(k int64) head { return h&^nodeMask + 1<<nodeBits + head(k) }
