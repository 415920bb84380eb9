package diff

import (
	"math"
	"slices"

	"voile/api"
	"voile/store"
)

// deepest is how deep a node may stand (9); the root stands 0 deep.
const deepest = 20

// tree is one of two trees that are gone over beside one another.
type tree struct {
	store *store.Store
	// row has the nodes that were come to, and not gone past: the last one comes next.
	row []spot
	// nodes has all nodes that were come to.
	nodes map[uint32]struct{}
	// pairs is what those leaves say that the other tree was not found to have.
	pairs []api.Pair
	// left is how many nodes there may be still.
	left int
	told api.Errno
}

// spot is where a node stands in a tree: how deep; and what it says, once it was read.
type spot struct {
	no   uint32
	deep int
	api.Node
}

// apart goes over two trees beside one another, but not over what stands under the nodes that both have.
func apart(s *store.Store, old, new uint32) (*tree, *tree, api.Errno) {
	// To hold the empty tree is nothing, but where nothing can be asked of the store.
	if e := s.Hold(0); e != api.OK {
		return nil, nil, e
	}
	a, b := begin(s, old), begin(s, new)
	for {
		x, inA := a.next()
		y, inB := b.next()
		switch {
		case !inA && !inB:
			a.tell(b.told)
			return a, b, a.told
		case inA && inB && x.no == y.no:
			a.pass()
			b.pass()
		case !inB || inA && ahead(x.Node, y.Node):
			a.open(x)
		default:
			b.open(y)
		}
	}
}

// begin is a tree of which nothing but the root was come to.
func begin(s *store.Store, root uint32) *tree {
	t := &tree{store: s, nodes: map[uint32]struct{}{}, left: s.Super().Meta}
	if root != 0 {
		t.come(spot{no: root})
	}
	return t
}

// come comes to a node.
func (t *tree) come(x spot) {
	t.row = append(t.row, x)
	t.nodes[x.no] = struct{}{}
}

// pass goes past the node that comes next.
func (t *tree) pass() { t.row = t.row[:len(t.row)-1] }

// next reads the node that comes next, if there is one still. It goes past what is wrong, as what comes first of all that is wrong may stand further on.
func (t *tree) next() (spot, bool) {
	for len(t.row) > 0 {
		// A block stands but once in a tree. Where more come than there are, some stand there again and again, and going over them might have no end in any time.
		if t.left == 0 {
			t.tell(api.ErrSound)
			t.row = nil
			break
		}
		x := t.row[len(t.row)-1]
		var e api.Errno
		if x.Node, e = look(t.store, x); e == api.OK {
			return x, true
		}
		t.tell(e)
		t.pass()
		t.left--
	}
	return spot{}, false
}

// open goes past the node that comes next, and takes what it says, or comes to what stands under it.
func (t *tree) open(x spot) {
	t.pass()
	t.left--
	if x.Kind != api.NodeInner {
		for i, key := range x.Keys {
			t.pairs = append(t.pairs, api.Pair{Key: key, Val: x.Vals[i]})
		}
		return
	}
	// From the right, as the last one comes next.
	for _, val := range slices.Backward(x.Vals) {
		t.come(spot{no: number(val), deep: x.deep + 1})
	}
}

// tell keeps an error: ErrArg, which the store has for a block that there is not, stands ahead of ErrSound.
func (t *tree) tell(e api.Errno) {
	if t.told == api.OK || e == api.ErrArg {
		t.told = e
	}
}

// look reads a node, if it may stand where it stands.
func look(s *store.Store, x spot) (api.Node, api.Errno) {
	n, e := s.Node(x.no)
	if e != api.OK {
		return api.Node{}, e
	}
	if x.deep > deepest || n.Kind == api.NodeInner && len(n.Keys) == 0 {
		return api.Node{}, api.ErrSound
	}
	return n, api.OK
}

// ahead: does a node come ahead of another one, of the other tree? It must wherever it may stand above that one, so that a node that both have comes next in both at once. A node begins no later than what stands under it; and what stands under its first key ends below its second one.
func ahead(x, y api.Node) bool {
	// Only a tree that is not sound has a leaf without keys: it has nothing to tell, wherever it comes.
	if len(x.Keys) == 0 || len(y.Keys) == 0 {
		return len(x.Keys) == 0
	}
	if x.Keys[0] != y.Keys[0] {
		return x.Keys[0] < y.Keys[0]
	}
	return second(x) > second(y)
}

// second is a node's second key, or its only one.
func second(x api.Node) uint64 { return x.Keys[min(1, len(x.Keys)-1)] }

// number is the node that a value of an inner node names. A value that is no metadata block's number stays one that is none's.
func number(val uint64) uint32 { return uint32(min(val, math.MaxUint32)) }
