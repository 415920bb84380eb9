package volume

import (
	"math"
	"slices"

	"voile/api"
	"voile/store"
)

// deepest is how deep a node may stand (9); the root stands 0 deep.
const deepest = 20

// step is a node on the way down a tree.
type step struct {
	no uint32
	api.Node
}

// spot is where a key stands in a tree, or would: the way down to its leaf; the value that it has, if it is there.
type spot struct {
	way []step
	val uint64
	is  bool
}

// place is where a volume stands: in which top tree, and on which way down that.
type place struct {
	store *store.Store
	top   uint32
	way   []step
	api.Volume
}

// seek goes down a tree of a kind to a key. It keeps the way, as what may be changed hangs on whose the nodes there are.
func seek(s *store.Store, root uint32, kind api.NodeKind, key uint64) (spot, api.Errno) {
	var at spot
	if root == 0 {
		return at, api.OK
	}
	for n, low := root, uint64(0); ; {
		x, e := s.Node(n)
		if e != api.OK {
			return spot{}, e
		}
		at.way = append(at.way, step{n, x})
		if !stands(x, kind, low, len(at.way)) {
			return spot{}, api.ErrSound
		}
		i, is := slices.BinarySearch(x.Keys, key)
		if x.Kind == kind {
			if is {
				at.val, at.is = x.Vals[i], true
			}
			return at, api.OK
		}
		if !is {
			// Under the last child whose key is not above it, or, below all, under the first one.
			i = max(i-1, 0)
		}
		n, low = number(x.Vals[i]), x.Keys[i]
	}
}

// stands: may a node stand in a tree of a kind, as the one of so many on a way, where no key may be below one?
func stands(x api.Node, kind api.NodeKind, low uint64, many int) bool {
	if len(x.Keys) > 0 && x.Keys[0] < low {
		return false
	}
	return x.Kind == kind || x.Kind == api.NodeInner && len(x.Keys) > 0 && many <= deepest
}

// number is the node that a value of an inner node names. A value that is no metadata block's number stays one that is none's.
func number(val uint64) uint32 { return uint32(min(val, math.MaxUint32)) }

// look looks for a volume.
func look(s *store.Store, top uint32, volume uint64) (place, bool, api.Errno) {
	at, e := seek(s, top, api.NodeTop, volume)
	if e != api.OK || !at.is {
		return place{}, false, e
	}
	v, e := of(s, api.Pair{Key: volume, Val: at.val})
	if e != api.OK {
		return place{}, false, e
	}
	return place{s, top, at.way, v}, true, api.OK
}

// there looks for a volume that is to be there; may: may all else be that is asked for?
func there(s *store.Store, top uint32, volume uint64, may bool) (place, api.Errno) {
	if e := asked(s, numbered(volume) && may); e != api.OK {
		return place{}, e
	}
	x, is, e := look(s, top, volume)
	if e == api.OK && !is {
		e = api.ErrNone
	}
	return x, e
}

// find looks for a block of a volume that is to have it.
func find(s *store.Store, top uint32, volume uint64, block int, may bool) (place, spot, api.Errno) {
	x, e := there(s, top, volume, may)
	if e != api.OK {
		return place{}, spot{}, e
	}
	if block < 0 || block >= x.Size {
		return place{}, spot{}, api.ErrRange
	}
	at, e := seek(s, x.Root, api.NodeMap, uint64(block))
	if e != api.OK {
		return place{}, spot{}, e
	}
	if at.is && at.val >= uint64(s.Super().Data) {
		return place{}, spot{}, api.ErrArg
	}
	return x, at, api.OK
}
