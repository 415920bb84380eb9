package btree

import (
	"math"

	"voile/api"
	"voile/block"
	"voile/store"
)

// ground is what a tree that is changed stands on: a store, or a trial of one.
type ground interface {
	Node(n uint32) (api.Node, api.Errno)
	Shadow(n uint32) (uint32, api.Node, api.Errno)
	New(x api.Node) (uint32, api.Errno)
	Put(n uint32, x api.Node) api.Errno
	Free(n uint32) api.Errno
}

// trial does what a store would do (8), and leaves the store as it is.
type trial struct {
	store *store.Store
	// meta and data are how many blocks there are; room is how many metadata blocks are free, and below 0 where more were taken.
	meta, data uint32
	room       int
	// says has what fresh nodes say that were changed or are new; new ones have numbers behind the area's, from next on.
	says map[uint32]api.Node
	next uint32
	// more is how much more often a block is named than the store has it.
	more map[name]int
	// refused is what the store would have told; full: it has no room, or a count has none.
	refused api.Errno
	full    bool
}

// name is a block that a node names: of the metadata area, or of the data area.
type name struct {
	data bool
	no   uint32
}

// tried does something to a trial of a store first, so that what is refused has changed nothing.
func tried(s *store.Store, do func(on ground) (uint32, uint64, bool, api.Errno)) (uint32, uint64, bool, api.Errno) {
	x := s.Super()
	t := &trial{store: s, meta: uint32(x.Meta), data: uint32(x.Data), next: uint32(x.Meta), says: map[uint32]api.Node{}, more: map[name]int{}}
	t.room, _ = s.Room()
	_, _, _, e := do(t)
	if e := t.verdict(e); e != api.OK {
		return 0, 0, false, e
	}
	return do(s)
}

// verdict is what comes first of all that could be told: what the store tells, and of that a lack of room last; then what is wrong with the tree.
func (t *trial) verdict(e api.Errno) api.Errno {
	switch {
	case t.refused != api.OK:
		return t.refused
	case t.full:
		return api.ErrFull
	}
	return e
}

func (t *trial) refuse(e api.Errno) api.Errno {
	t.refused = e
	return e
}

// Node is as the store's.
func (t *trial) Node(n uint32) (api.Node, api.Errno) {
	if x, is := t.says[n]; is {
		return block.Copy(x), api.OK
	}
	x, e := t.store.Node(n)
	return x, t.refuse(e)
}

// Shadow is as the store's.
func (t *trial) Shadow(n uint32) (uint32, api.Node, api.Errno) {
	own := name{no: n}
	if n == 0 || n >= t.meta {
		return 0, api.Node{}, t.refuse(api.ErrArg)
	}
	named := t.count(own)
	if named == 0 {
		return 0, api.Node{}, t.refuse(api.ErrState)
	}
	x, e := t.Node(n)
	if e != api.OK {
		return 0, api.Node{}, e
	}
	if named == 1 && t.fresh(n, x) {
		return n, x, api.OK
	}
	no := t.add(x)
	if named > 1 {
		if e := t.holdAll(x); e != api.OK {
			return 0, api.Node{}, e
		}
	}
	t.more[own]--
	return no, x, api.OK
}

// New is as the store's.
func (t *trial) New(x api.Node) (uint32, api.Errno) {
	if !block.May(x) {
		return 0, t.refuse(api.ErrArg)
	}
	return t.add(x), api.OK
}

// Put is as the store's, of a shadow or a new node: fresh, if it was not let go meanwhile.
func (t *trial) Put(n uint32, x api.Node) api.Errno {
	if !block.May(x) {
		return t.refuse(api.ErrArg)
	}
	if t.count(name{no: n}) == 0 {
		return t.refuse(api.ErrState)
	}
	t.says[n] = block.Copy(x)
	return api.OK
}

// Free is as the store's, of a fresh node.
func (t *trial) Free(n uint32) api.Errno {
	own := name{no: n}
	if t.count(own) != 1 {
		return t.refuse(api.ErrState)
	}
	t.more[own]--
	delete(t.says, n)
	t.room++
	return api.OK
}

// add takes a metadata block. Where none is free it goes on: what else the store would tell comes ahead of that.
func (t *trial) add(x api.Node) uint32 {
	if t.room == 0 {
		t.full = true
	}
	t.room--
	no := t.next
	t.next++
	t.says[no] = block.Copy(x)
	t.more[name{no: no}]++
	return no
}

// holdAll lets all that a node names be named once more.
func (t *trial) holdAll(x api.Node) api.Errno {
	for _, val := range x.Vals {
		n, many := name{no: number(val)}, t.meta
		switch x.Kind {
		case api.NodeMap:
			n.data, many = true, t.data
		case api.NodeTop:
			n.no = uint32(val >> 32)
		}
		// A root of 0 is an empty tree, which nobody names.
		if !n.data && n.no == 0 {
			continue
		}
		if n.no >= many {
			return t.refuse(api.ErrArg)
		}
		switch t.count(n) {
		case 0:
			return t.refuse(api.ErrState)
		case math.MaxUint16:
			t.full = true
		}
		t.more[n]++
	}
	return api.OK
}

// count is how often a block is named.
func (t *trial) count(n name) int {
	if n.data {
		return int(t.store.DataCount(n.no)) + t.more[n]
	}
	return int(t.store.Count(n.no)) + t.more[n]
}

// fresh: is a node fresh that says this? The store lets none be changed that is not, and what a node says already changes nothing.
func (t *trial) fresh(n uint32, x api.Node) bool {
	_, is := t.says[n]
	return is || t.store.Put(n, x) == api.OK
}
