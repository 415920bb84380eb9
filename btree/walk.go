package btree

import (
	"math"

	"voile/api"
	"voile/store"
)

// spot is where a node stands in a tree: how deep, and between which keys all must lie that stands there.
type spot struct {
	no        uint32
	deep      int
	low, high uint64
}

// walk goes over a tree's nodes.
type walk struct {
	store *store.Store
	// What stands ahead of the key from, by the inner nodes' keys, is not gone over.
	from  uint64
	visit func(at spot, x api.Node) api.Errno
	// left is how many nodes there may be still.
	left int
	told api.Errno
}

// over goes over the nodes of a tree that may have keys from one on, each ahead of what stands under it, from the left.
func over(s *store.Store, root uint32, from uint64, visit func(at spot, x api.Node) api.Errno) api.Errno {
	if e := ready(s); e != api.OK || root == 0 {
		return e
	}
	w := walk{store: s, from: from, visit: visit, left: s.Super().Meta}
	w.under(spot{no: root, high: math.MaxUint64})
	return w.told
}

// under goes over a node, and what stands under it. It goes on behind what is wrong, as what comes first of all that is wrong may stand further on.
func (w *walk) under(at spot) {
	// A block stands but once in a tree. Where more come than there are, some stand there again and again, and going over them might have no end in any time.
	if w.left == 0 {
		w.tell(api.ErrSound)
		return
	}
	w.left--
	x, e := look(w.store, at.no, at.deep)
	if e != api.OK {
		w.tell(e)
		return
	}
	w.tell(w.visit(at, x))
	if x.Kind != api.NodeInner {
		return
	}
	for i := way(x, w.from); i < len(x.Keys); i++ {
		below := spot{no: number(x.Vals[i]), deep: at.deep + 1, low: x.Keys[i], high: at.high}
		if i+1 < len(x.Keys) {
			below.high = x.Keys[i+1] - 1
		}
		w.under(below)
	}
}

// tell keeps an error: ErrArg, which the store has for a block that there is not, stands ahead of ErrSound.
func (w *walk) tell(e api.Errno) {
	if w.told == api.OK || e == api.ErrArg {
		w.told = e
	}
}

// least is how many keys a node has at least.
func least(at spot, x api.Node) int {
	switch {
	case at.deep > 0:
		return api.MinKeys
	case x.Kind == api.NodeInner:
		return 2
	}
	return 1
}

// within: do a node's keys, which rise, lie where they must?
func within(at spot, x api.Node) bool {
	return len(x.Keys) == 0 || x.Keys[0] >= at.low && x.Keys[len(x.Keys)-1] <= at.high
}
