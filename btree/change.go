package btree

import (
	"slices"

	"voile/api"
	"voile/block"
)

// twig is a node that may be changed, with what it is to say: that comes to the store when it is kept. One without a number is new.
type twig struct {
	no uint32
	api.Node
}

// change is done to a tree on the way down to the leaf of a key, and up again.
type change struct {
	on  ground
	key uint64
	// leaf changes the leaf; inner lets an inner node take up what became of its child at a place.
	leaf  func(x *twig) api.Errno
	inner func(x *twig, at int, child twig) api.Errno
	// deep is where the way has come to.
	deep int
}

// put gives a key a value in the tree of a root.
func put(on ground, root uint32, kind api.NodeKind, key, val uint64) (no uint32, old uint64, had bool, e api.Errno) {
	if root == 0 {
		no, e = on.New(api.Node{Kind: kind, Keys: []uint64{key}, Vals: []uint64{val}})
		return no, 0, false, e
	}
	c := change{on: on, key: key}
	c.leaf = func(x *twig) api.Errno {
		if x.Kind != kind {
			return api.ErrSound
		}
		at, is := block.Find(x.Node, key)
		if is {
			old, had = x.Vals[at], true
			x.Vals[at] = val
			return api.OK
		}
		x.Keys, x.Vals = slices.Insert(x.Keys, at, key), slices.Insert(x.Vals, at, val)
		return api.OK
	}
	c.inner = func(x *twig, at int, child twig) api.Errno { return c.lay(x, at, at+1, split(child)...) }
	top, e := c.down(root)
	if e != api.OK {
		return 0, 0, false, e
	}
	if parts := split(top); len(parts) > 1 {
		top = twig{Node: api.Node{Kind: api.NodeInner}}
		if e := c.lay(&top, 0, 0, parts...); e != api.OK {
			return 0, 0, false, e
		}
	}
	if no, e = c.keep(top); e != api.OK {
		return 0, 0, false, e
	}
	return no, old, had, api.OK
}

// remove lets a key go that is in the tree of a root.
func remove(on ground, root uint32, key uint64) (no uint32, old uint64, had bool, e api.Errno) {
	c := change{on: on, key: key}
	c.leaf = func(x *twig) api.Errno {
		at, is := block.Find(x.Node, key)
		if is {
			old, had = x.Vals[at], true
			x.Keys, x.Vals = slices.Delete(x.Keys, at, at+1), slices.Delete(x.Vals, at, at+1)
		}
		return api.OK
	}
	c.inner = func(x *twig, at int, child twig) api.Errno {
		if len(child.Keys) >= api.MinKeys || len(x.Keys) == 1 {
			return c.lay(x, at, at+1, child)
		}
		return c.join(x, at, child)
	}
	top, e := c.down(root)
	if e != api.OK {
		return 0, 0, false, e
	}
	if no, e = c.keep(top); e != api.OK {
		return 0, 0, false, e
	}
	if no, e = c.lower(no); e != api.OK {
		return 0, 0, false, e
	}
	return no, old, had, api.OK
}

// down goes down from a node to the leaf of the key; on the way up each node has taken up what became of the one under it.
func (c *change) down(n uint32) (twig, api.Errno) {
	x, e := c.shadow(n)
	if e != api.OK {
		return twig{}, e
	}
	if x.Kind != api.NodeInner {
		e = c.leaf(&x)
		return x, e
	}
	at := way(x.Node, c.key)
	c.deep++
	child, e := c.down(number(x.Vals[at]))
	if e == api.OK {
		e = c.inner(&x, at, child)
	}
	c.deep--
	return x, e
}

// shadow makes a node one that may be changed.
func (c *change) shadow(n uint32) (twig, api.Errno) {
	no, x, e := c.on.Shadow(n)
	if e != api.OK {
		return twig{}, e
	}
	if !stands(x, c.deep) {
		return twig{}, api.ErrSound
	}
	return twig{no, x}, api.OK
}

// keep lets a node say what it is to say, and tells its number.
func (c *change) keep(x twig) (uint32, api.Errno) {
	if x.no == 0 {
		return c.on.New(x.Node)
	}
	return x.no, c.on.Put(x.no, x.Node)
}

// lay keeps children of an inner node, in the stead of those that stood from one place up to another, by their first keys.
func (c *change) lay(x *twig, from, to int, children ...twig) api.Errno {
	var keys, vals []uint64
	for _, child := range children {
		no, e := c.keep(child)
		if e != api.OK {
			return e
		}
		vals = append(vals, uint64(no))
		if len(child.Keys) > 0 {
			keys = append(keys, child.Keys[0])
		} else {
			// Only a tree that is not sound has such a child; it stands where it stood.
			keys = append(keys, x.Keys[from])
		}
	}
	x.Keys, x.Vals = slices.Replace(x.Keys, from, to, keys...), slices.Replace(x.Vals, from, to, vals...)
	return api.OK
}

// split parts a node that has more keys than it may have.
func split(x twig) []twig {
	if len(x.Keys) <= api.MaxKeys {
		return []twig{x}
	}
	return cut(x, twig{Node: api.Node{Kind: x.Kind}}, x.Node, api.MinKeys)
}

// cut lets a left node have the first keys, so many, of what both have, and a right one the others.
func cut(left, right twig, both api.Node, many int) []twig {
	left.Keys, left.Vals = both.Keys[:many], both.Vals[:many]
	right.Keys, right.Vals = both.Keys[many:], both.Vals[many:]
	return []twig{left, right}
}

// join joins the child at a place, which has too few keys, with the one beside it.
func (c *change) join(x *twig, at int, child twig) api.Errno {
	first, beside := at, at+1
	if beside == len(x.Keys) {
		first, beside = at-1, at-1
	}
	other, e := c.shadow(number(x.Vals[beside]))
	if e != api.OK {
		return e
	}
	// Keys of leaves and of inner nodes can't stand in one node, nor can a node be joined with itself.
	if other.Kind != child.Kind || other.no == child.no {
		return api.ErrSound
	}
	left, right := child, other
	if beside < at {
		left, right = other, child
	}
	both := api.Node{Keys: slices.Concat(left.Keys, right.Keys), Vals: slices.Concat(left.Vals, right.Vals)}
	if many := len(both.Keys); many > api.MaxKeys {
		return c.lay(x, first, first+2, cut(left, right, both, many/2)...)
	}
	left.Keys, left.Vals = both.Keys, both.Vals
	if e := c.lay(x, first, first+2, left); e != api.OK {
		return e
	}
	return c.on.Free(right.no)
}

// lower lets a root go that has too little under it to be one.
func (c *change) lower(root uint32) (uint32, api.Errno) {
	for {
		x, e := c.on.Node(root)
		if e != api.OK {
			return 0, e
		}
		below := uint32(0)
		switch {
		case x.Kind == api.NodeInner && len(x.Keys) == 1:
			below = number(x.Vals[0])
		case x.Kind == api.NodeInner || len(x.Keys) > 0:
			return root, api.OK
		}
		if e := c.on.Free(root); e != api.OK || below == 0 {
			return 0, e
		}
		root = below
	}
}
