package volume

import (
	"slices"

	"voile/api"
	"voile/btree"
	"voile/store"
)

// change is what is done to a volume's map.
type change struct {
	// do takes the root's name, and tells which root has a name instead; where it is refused, it has changed nothing.
	do func(root uint32) (uint32, api.Errno)
	// size is the volume's behind it.
	size int
	// touched are the map's nodes that may be changed, or let go; out is what comes out of it: data blocks.
	touched []uint32
	out     []uint64
}

// changing is a change at one block.
func (x place) changing(at spot, do func(root uint32) (uint32, api.Errno)) change {
	c := change{do: do, size: x.Size, touched: around(at.way)}
	if at.is {
		c.out = []uint64{at.val}
	}
	return c
}

// cutting is a change by which all is let go that is mapped from a size on; where that is nothing, there is nothing to do.
func (x place) cutting(size int) (change, api.Errno) {
	if size >= x.Size {
		return change{}, api.OK
	}
	gone, e := btree.All(x.store, x.Root, uint64(size))
	if e != api.OK || len(gone) == 0 {
		return change{}, e
	}
	if e := btree.Check(x.store, x.Root, api.NodeMap); e != api.OK {
		return change{}, e
	}
	nodes, e := btree.Nodes(x.store, x.Root)
	if e != api.OK {
		return change{}, e
	}
	c := change{size: size, touched: nodes}
	c.do = func(root uint32) (uint32, api.Errno) { return cut(x.store, root, nodes, gone) }
	for _, p := range gone {
		c.out = append(c.out, p.Val)
	}
	return c, api.OK
}

// cut lets keys go of a map of these nodes: all of them, or none.
func cut(s *store.Store, root uint32, nodes []uint32, gone []api.Pair) (uint32, api.Errno) {
	own := owned(s, nodes)
	if !own {
		// The map as it is, to go back to.
		if e := s.Hold(root); e != api.OK {
			return 0, e
		}
	}
	left := root
	for i, p := range slices.Backward(gone) {
		next, _, _, e := btree.Delete(s, left, p.Key)
		if e != api.OK {
			s.Drop(left)
			for _, out := range gone[i+1:] {
				s.DropData(uint32(out.Val))
			}
			return 0, e
		}
		left = next
	}
	if own {
		return left, api.OK
	}
	return left, s.Drop(root)
}

// held lets a volume's map be changed, and tells the new top. It holds the top tree as it is meanwhile, where that is not the caller's alone on the way to the volume: there what is changed is copied, and one of both is let go behind it.
func (x place) held(c change) (uint32, api.Errno) {
	if e := x.changeable(c); e != api.OK {
		return 0, e
	}
	top, own := x.top, owned(x.store, x.numbers())
	if !own {
		var e api.Errno
		if top, e = x.copied(); e != api.OK {
			return 0, e
		}
	}
	root, e := c.do(x.Root)
	if e != api.OK {
		if !own {
			x.store.Drop(top)
		}
		return 0, e
	}
	top, e = put(x.store, top, api.Volume{Number: x.Number, Root: root, Size: c.size})
	if e == api.OK && !own {
		e = x.store.Drop(x.top)
	}
	for _, n := range c.out {
		if e == api.OK {
			e = x.store.DropData(uint32(n))
		}
	}
	if e != api.OK {
		return 0, e
	}
	return top, api.OK
}

// copied is the top tree once more, the caller's alone on the way to the volume, beside the one that there is.
func (x place) copied() (uint32, api.Errno) {
	if e := x.store.Hold(x.top); e != api.OK {
		return 0, e
	}
	// The volume as it is: what is put is a name of its map's root, and so is what comes out.
	top, e := put(x.store, x.top, x.Volume)
	if e != api.OK {
		x.store.Drop(x.top)
		return 0, e
	}
	return top, api.OK
}

// numbers are those of the nodes on the way.
func (x place) numbers() []uint32 {
	var l []uint32
	for _, on := range x.way {
		l = append(l, on.no)
	}
	return l
}

// owned: are nodes all fresh, and named once, so that each is its own shadow?
func owned(s *store.Store, numbers []uint32) bool {
	for _, n := range numbers {
		if s.Count(n) != 1 {
			return false
		}
		x, e := s.Node(n)
		// The store lets none be changed that is not fresh, and what a node says already changes nothing.
		if e != api.OK || s.Put(n, x) != api.OK {
			return false
		}
	}
	return true
}
