package volume

import (
	"slices"

	"voile/api"
	"voile/store"
)

// name is a block that is named: of the metadata area, or of the data area.
type name struct {
	data bool
	no   uint64
}

// changeable tells why a volume's map can't be changed: what comes out can't be let go, or what is changed stands elsewhere, too. (Asked ahead of all, as what is refused must have changed nothing.)
func (x place) changeable(c change) api.Errno {
	var out []name
	for _, n := range c.out {
		out = append(out, name{true, n})
	}
	if _, e := fall(x.store, out...); e != api.OK {
		return e
	}
	return apart(x.store, slices.Concat(around(x.way), c.touched))
}

// droppable tells likewise why a volume's map can't be dropped.
func (x place) droppable() api.Errno {
	if x.Root == 0 {
		return api.OK
	}
	nodes, e := fall(x.store, name{no: uint64(x.Root)})
	if e != api.OK {
		return e
	}
	return apart(x.store, slices.Concat(around(x.way), nodes))
}

// around are the nodes on a way, and those beside it: all that may be changed with what stands there.
func around(way []step) []uint32 {
	var l []uint32
	for i, x := range way {
		if i == 0 {
			l = append(l, x.no)
		}
		if x.Kind != api.NodeInner {
			continue
		}
		for _, val := range x.Vals {
			l = append(l, number(val))
		}
	}
	return l
}

// apart tells what is wrong with nodes of which each must be named, and stand in one place alone: else one would be changed with another one.
func apart(s *store.Store, l []uint32) api.Errno {
	seen := map[uint32]struct{}{}
	for _, n := range l {
		if s.Count(n) == 0 {
			return api.ErrState
		}
		if _, again := seen[n]; again {
			return api.ErrSound
		}
		seen[n] = struct{}{}
	}
	return api.OK
}

// fall tells which nodes are named less when names are dropped, or why the store would refuse that on its way.
func fall(s *store.Store, l ...name) ([]uint32, api.Errno) {
	var nodes []uint32
	less := map[name]int{}
	var drop func(n name) api.Errno
	drop = func(n name) api.Errno {
		many, count := s.Super().Meta, s.Count
		if n.data {
			many, count = s.Super().Data, s.DataCount
		}
		if n.no >= uint64(many) {
			return api.ErrArg
		}
		less[n]++
		left := int(count(uint32(n.no))) - less[n]
		if left < 0 {
			return api.ErrState
		}
		if n.data {
			return api.OK
		}
		nodes = append(nodes, uint32(n.no))
		if left > 0 {
			return api.OK
		}
		return under(s, n, drop)
	}
	for _, n := range l {
		if e := drop(n); e != api.OK {
			return nil, e
		}
	}
	return nodes, api.OK
}

// under goes over what a map's node names.
func under(s *store.Store, n name, drop func(n name) api.Errno) api.Errno {
	x, e := s.Node(uint32(n.no))
	if e != api.OK {
		return e
	}
	if x.Kind == api.NodeTop {
		return api.ErrSound
	}
	for _, val := range x.Vals {
		if e := drop(name{x.Kind == api.NodeMap, val}); e != api.OK {
			return e
		}
	}
	return api.OK
}
