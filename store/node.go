package store

import (
	"iter"
	"math"

	"voile/api"
	"voile/block"
	"voile/count"
	"voile/super"
)

// name is a block that a node names: of the metadata area, or of the data area.
type name struct {
	data bool
	no   uint64
}

// Node is a node.
func (s *Store) Node(n uint32) (x api.Node, e api.Errno) {
	defer s.settle(&e)
	if e := s.place(n); e != api.OK {
		return api.Node{}, e
	}
	return s.read(n)
}

// New is a fresh node.
func (s *Store) New(x api.Node) (uint32, api.Errno) {
	if e := s.ready(); e != api.OK {
		return 0, e
	}
	if !block.May(x) {
		return 0, api.ErrArg
	}
	return s.add(x)
}

// Shadow is a node that may be changed.
func (s *Store) Shadow(n uint32) (no uint32, x api.Node, e api.Errno) {
	defer s.settle(&e)
	if e := s.place(n); e != api.OK {
		return 0, api.Node{}, e
	}
	named := s.Count(n)
	if named == 0 {
		return 0, api.Node{}, api.ErrState
	}
	if x, e = s.read(n); e != api.OK {
		return 0, api.Node{}, e
	}
	if s.isFresh(n) && named == 1 {
		return n, x, api.OK
	}
	if no, e = s.add(x); e != api.OK {
		return 0, api.Node{}, e
	}
	// An elder node that nobody names any more hands on what it names; one that is named still names it, too.
	if named > 1 {
		if e := s.holdAll(x); e != api.OK {
			return 0, api.Node{}, e
		}
	}
	if _, e := s.meta.Dec(int(n)); e != api.OK {
		return 0, api.Node{}, e
	}
	return no, block.Copy(s.fresh[no]), api.OK
}

// Put changes a fresh node.
func (s *Store) Put(n uint32, x api.Node) api.Errno {
	if e := s.place(n); e != api.OK {
		return e
	}
	if !block.May(x) {
		return api.ErrArg
	}
	if !s.isFresh(n) {
		return api.ErrState
	}
	x.Birth = s.fresh[n].Birth
	s.fresh[n] = block.Copy(x)
	return api.OK
}

// Hold: a node is named once more.
func (s *Store) Hold(n uint32) api.Errno {
	if e := s.ready(); e != api.OK {
		return e
	}
	if n == 0 {
		return api.OK
	}
	return s.hold(name{no: uint64(n)})
}

// Drop: a node is named once less.
func (s *Store) Drop(n uint32) (e api.Errno) {
	defer s.settle(&e)
	if e := s.ready(); e != api.OK {
		return e
	}
	if n == 0 {
		return api.OK
	}
	return s.drop(name{no: uint64(n)})
}

// Free lets a fresh node go.
func (s *Store) Free(n uint32) api.Errno {
	if e := s.place(n); e != api.OK {
		return e
	}
	if !s.isFresh(n) || s.Count(n) != 1 {
		return api.ErrState
	}
	delete(s.fresh, n)
	_, e := s.meta.Dec(int(n))
	return e
}

// NewData is a fresh data block.
func (s *Store) NewData(b api.Block) (no uint32, e api.Errno) {
	defer s.settle(&e)
	if e := s.ready(); e != api.OK {
		return 0, e
	}
	n, e := s.data.Alloc()
	if e != api.OK {
		return 0, e
	}
	if e := super.Write(s.disk, dataAt(s.last.Meta, uint32(n)), b); e != api.OK {
		return 0, e
	}
	return uint32(n), api.OK
}

// Data is a data block's content.
func (s *Store) Data(n uint32) (b api.Block, e api.Errno) {
	defer s.settle(&e)
	if e := s.ready(); e != api.OK {
		return api.Block{}, e
	}
	if uint64(n) >= uint64(s.data.Len()) {
		return api.Block{}, api.ErrArg
	}
	return super.Read(s.disk, dataAt(s.last.Meta, n))
}

// DropData: a data block is named once less.
func (s *Store) DropData(n uint32) api.Errno {
	if e := s.ready(); e != api.OK {
		return e
	}
	return s.drop(name{data: true, no: uint64(n)})
}

// place tells why nothing can be asked of the store of a node n.
func (s *Store) place(n uint32) api.Errno {
	if e := s.ready(); e != api.OK {
		return e
	}
	if n == 0 || uint64(n) >= uint64(s.meta.Len()) {
		return api.ErrArg
	}
	return api.OK
}

func (s *Store) isFresh(n uint32) bool {
	_, is := s.fresh[n]
	return is
}

// read tells a node of a metadata block that there is, in new memory.
func (s *Store) read(n uint32) (api.Node, api.Errno) {
	if x, is := s.fresh[n]; is {
		return block.Copy(x), api.OK
	}
	b, e := super.Read(s.disk, metaAt(n))
	if e != api.OK {
		return api.Node{}, e
	}
	return block.Of(n, b)
}

// add makes a fresh node.
func (s *Store) add(x api.Node) (uint32, api.Errno) {
	n, e := s.meta.Alloc()
	if e != api.OK {
		return 0, e
	}
	x.Birth = s.last.Tx + 1
	s.fresh[uint32(n)] = block.Copy(x)
	return uint32(n), api.OK
}

// hold lets a block be named once more.
func (s *Store) hold(n name) api.Errno { return s.areaOf(n).Inc(n.at()) }

// holdAll holds all that a node names.
func (s *Store) holdAll(x api.Node) api.Errno {
	for n := range names(x) {
		if e := s.hold(n); e != api.OK {
			return e
		}
	}
	return api.OK
}

// drop lets a block be named once less; a node that nobody names then drops all that it names.
func (s *Store) drop(n name) api.Errno {
	at := n.at()
	if n.data || s.meta.Count(at) != 1 {
		_, e := s.areaOf(n).Dec(at)
		return e
	}
	// Read ahead of all else: a node that can't be read stays named.
	x, e := s.read(uint32(at))
	if e != api.OK {
		return e
	}
	if _, e := s.meta.Dec(at); e != api.OK {
		return e
	}
	delete(s.fresh, uint32(at))
	for below := range names(x) {
		if e := s.drop(below); e != api.OK {
			return e
		}
	}
	return api.OK
}

// areaOf is the area that a named block is of.
func (s *Store) areaOf(n name) *count.Area {
	if n.data {
		return s.data
	}
	return s.meta
}

// at is where a named block stands in its area. A number that has no room in an int is of no area's block, as the greatest is not.
func (n name) at() int { return int(min(n.no, math.MaxInt32)) }

// names goes over what a node names.
func names(x api.Node) iter.Seq[name] {
	return func(yield func(name) bool) {
		for _, v := range x.Vals {
			n := name{no: v}
			switch x.Kind {
			case api.NodeMap:
				n.data = true
			case api.NodeTop:
				n.no = v >> 32
			}
			// A root of 0 is an empty tree, and the metadata block 0 none's.
			empty := !n.data && n.no == 0
			if !empty && !yield(n) {
				return
			}
		}
	}
}
