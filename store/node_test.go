package store_test

import (
	"math"
	"reflect"
	"slices"
	"testing"

	"voile/api"
	"voile/block"
	"voile/disk"
	"voile/store"
)

// P8.2

func TestNew(t *testing.T) {
	d, s := small(t)
	for i, x := range []api.Node{leaf(), leaf(0, 7, 7, 1<<63), inner(3, 0, 1<<40), top(5, 0, 9), nodeOf(api.NodeTop, 1, 2, 3, 4, 5, 6)} {
		before := d.Copy()
		n := add(t, s, x)
		if n != uint32(3+i) || s.Fresh() != i+1 {
			t.Errorf("node %d, of %d fresh ones", n, s.Fresh())
		}
		shows(t, s, n, born(x, 2))
		counts(t, s, 0, 1, 1, 1)
		counts(t, s, n, 1, 0)
		room(t, s, 12-i, 8)
		if !same(d, before) {
			t.Error("a new node is on the disk ahead of a commit")
		}
	}
	// What they name is not named more.
	counts(t, s, 3, 1, 1, 1, 1, 1, 0)
	dataCounts(t, s, 0, 0, 0, 0, 0, 0, 0, 0)
	commit(t, s, 0)
	shows(t, s, 5, born(inner(3, 0, 1<<40), 2))
	n := add(t, s, leaf(4))
	shows(t, s, n, born(leaf(4), 3))
}

func TestNewOfWhatMayNotBe(t *testing.T) {
	d, s := small(t)
	commit(t, s, add(t, s, leaf()))
	n := add(t, s, leaf(1))
	for why, x := range wrongNodes() {
		unchanged(t, d, s, why, func() {
			if n, e := s.New(x); n != 0 || e != api.ErrArg {
				t.Errorf("%s: New: %d, errno %d", why, n, e)
			}
			should(t, why+": Put", s.Put(n, x), api.ErrArg)
			// ErrArg stands ahead of ErrState.
			should(t, why+": Put of an elder one", s.Put(3, x), api.ErrArg)
			should(t, why+": Put of none", s.Put(14, x), api.ErrArg)
		})
	}
	for {
		if _, e := s.New(leaf()); e != api.OK {
			break
		}
	}
	for why, x := range wrongNodes() {
		if n, e := s.New(x); n != 0 || e != api.ErrArg {
			t.Errorf("%s: New without room: %d, errno %d", why, n, e)
		}
	}
}

func wrongNodes() map[string]api.Node {
	many := leaf(0, 1, 2, 3, 4, 5, 6)
	falling := leaf(1, 2)
	falling.Keys[1] = 0
	return map[string]api.Node{
		"no kind":         {},
		"a kind above":    nodeOf(4),
		"a kind below":    nodeOf(-1),
		"keys alone":      {Kind: api.NodeMap, Keys: []uint64{1}},
		"values alone":    {Kind: api.NodeMap, Vals: []uint64{1}},
		"too many keys":   many,
		"falling keys":    falling,
		"the same key":    {Kind: api.NodeInner, Keys: []uint64{4, 4}, Vals: []uint64{0, 0}},
		"one value less":  {Kind: api.NodeTop, Keys: []uint64{4, 5}, Vals: []uint64{0}},
		"one value above": {Kind: api.NodeTop, Keys: []uint64{4}, Vals: []uint64{0, 0}},
	}
}

// A full area.
func TestNewWithoutRoom(t *testing.T) {
	d, s := small(t)
	for range 13 {
		add(t, s, leaf())
	}
	room(t, s, 0, 8)
	unchanged(t, d, s, "without room", func() {
		if n, e := s.New(leaf(1)); n != 0 || e != api.ErrFull {
			t.Errorf("New: %d, errno %d", n, e)
		}
	})
	must(t, s.Hold(9))
	unchanged(t, d, s, "without room", func() {
		if n, x, e := s.Shadow(9); n != 0 || !reflect.DeepEqual(x, api.Node{}) || e != api.ErrFull {
			t.Errorf("Shadow: %d, %v, errno %d", n, x, e)
		}
		// What is fresh, and named once, needs none.
		if n, _, e := s.Shadow(8); n != 8 || e != api.OK {
			t.Errorf("Shadow: %d, errno %d", n, e)
		}
	})
	must(t, s.Free(5))
	if n := add(t, s, leaf(2)); n != 5 {
		t.Error(n)
	}
	shows(t, s, 5, born(leaf(2), 2))
}

// What the last commit named is not free ahead of the next one.
func TestElderBlocksAreKept(t *testing.T) {
	_, s := small(t)
	n, b := add(t, s, leaf()), addData(t, s, api.Block{5})
	commit(t, s, n)
	room(t, s, 12, 7)
	must(t, s.Drop(n))
	must(t, s.DropData(b))
	room(t, s, 12, 7)
	for {
		m, e := s.New(leaf())
		if e != api.OK {
			should(t, "New", e, api.ErrFull)
			break
		}
		if m == n {
			t.Fatal("a block of the last commit is given")
		}
	}
	shows(t, s, n, born(leaf(), 2))
	s.Abort()
	must(t, s.Drop(n))
	must(t, s.DropData(b))
	commit(t, s, 0)
	room(t, s, 13, 8)
}

func TestPut(t *testing.T) {
	d, s := small(t)
	elder := add(t, s, leaf(1))
	commit(t, s, elder)
	n := add(t, s, leaf(2))
	must(t, s.Hold(n))
	before := d.Copy()
	must(t, s.Put(n, top(9, 3)))
	shows(t, s, n, born(top(9, 3), 3))
	counts(t, s, n, 2)
	counts(t, s, 3, 1)
	dataCounts(t, s, 0, 0, 0)
	if !same(d, before) || s.Fresh() != 1 {
		t.Error("on the disk")
	}
	unchanged(t, d, s, "Put", func() {
		for m, want := range map[uint32]api.Errno{0: api.ErrArg, 16: api.ErrArg, 17: api.ErrArg, math.MaxUint32: api.ErrArg, elder: api.ErrState, 5: api.ErrState, 15: api.ErrState, 1: api.ErrState} {
			should(t, "Put", s.Put(m, leaf(9)), want)
		}
	})
	commit(t, s, elder)
	shows(t, s, n, born(top(9, 3), 3))
	should(t, "Put behind a commit", s.Put(n, leaf()), api.ErrState)
	shows(t, open(t, d), n, born(top(9, 3), 3))
}

func TestFree(t *testing.T) {
	d, s := small(t)
	elder := add(t, s, leaf(1))
	commit(t, s, elder)
	x := add(t, s, leaf(1, 1))
	y := add(t, s, inner(uint64(x)))
	must(t, s.Hold(x))
	unchanged(t, d, s, "Free", func() {
		for m, want := range map[uint32]api.Errno{0: api.ErrArg, 16: api.ErrArg, math.MaxUint32: api.ErrArg, elder: api.ErrState, 1: api.ErrState, 14: api.ErrState, x: api.ErrState} {
			should(t, "Free", s.Free(m), want)
		}
	})
	must(t, s.Free(y))
	counts(t, s, x, 2, 0)
	if s.Fresh() != 1 {
		t.Error(s.Fresh())
	}
	should(t, "Free again", s.Free(y), api.ErrState)
	must(t, s.Drop(x))
	must(t, s.Free(x))
	counts(t, s, x, 0, 0)
	room(t, s, 12, 8)
	if _, e := s.Node(x); e != api.ErrSound || s.Fresh() != 0 {
		t.Errorf("a node that is none any more: errno %d", e)
	}
}

func TestNode(t *testing.T) {
	d, s := small(t)
	n := add(t, s, leaf(1, 2))
	commit(t, s, n)
	shows(t, s, n, born(leaf(1, 2), 2))
	for m, want := range map[uint32]api.Errno{0: api.ErrArg, 16: api.ErrArg, 1 << 31: api.ErrArg, math.MaxUint32: api.ErrArg, 1: api.ErrSound, 4: api.ErrSound, 15: api.ErrSound} {
		if x, e := s.Node(m); e != want || !reflect.DeepEqual(x, api.Node{}) {
			t.Errorf("Node(%d): %v, errno %d; want errno %d alone", m, x, e, want)
		}
	}
	// A node that lies where it should not is none's of its number; and whichever bit is changed.
	lay(t, d, 2+9, read(t, d, 2+int(n)))
	if _, e := s.Node(9); e != api.ErrSound {
		t.Errorf("errno %d", e)
	}
	lay(t, d, 2+9, blockOf(t, 9, top(3)))
	shows(t, s, 9, top(3))
	for at := range 60 {
		b := blockOf(t, 9, top(3))
		b[at] ^= 4
		lay(t, d, 2+9, b)
		if x, e := s.Node(9); e != api.ErrSound || !reflect.DeepEqual(x, api.Node{}) {
			t.Errorf("byte %d: %v, errno %d", at, x, e)
		}
	}
}

// What a node names is named more just where both go on naming it.
func TestShadow(t *testing.T) {
	for _, kind := range []string{"leaf", "inner", "top"} {
		// under has, beside the shadowed node, what it names: first named once, then twice.
		build := func(t *testing.T) (*disk.Disk, *store.Store, uint32, api.Node, func(want uint16)) {
			d, s := small(t)
			if kind == "leaf" {
				a, b := addData(t, s, api.Block{1}), addData(t, s, api.Block{2})
				x := leaf(uint64(a), uint64(b))
				return d, s, add(t, s, x), x, func(want uint16) { dataCounts(t, s, want, want, 0) }
			}
			a, b := add(t, s, leaf()), add(t, s, leaf())
			x := inner(uint64(a), 0, uint64(b))
			if kind == "top" {
				x = top(uint64(a), 0, uint64(b))
			}
			return d, s, add(t, s, x), x, func(want uint16) { counts(t, s, a, want, want); dataCounts(t, s, 0) }
		}
		t.Run(kind+", fresh, once", func(t *testing.T) {
			d, s, n, x, under := build(t)
			unchanged(t, d, s, "Shadow", func() {
				if m, y, e := s.Shadow(n); m != n || !block.Same(y, born(x, 2)) || e != api.OK {
					t.Errorf("%d, %v, errno %d", m, y, e)
				}
			})
			under(1)
		})
		t.Run(kind+", fresh, twice", func(t *testing.T) {
			_, s, n, x, under := build(t)
			must(t, s.Hold(n))
			m, y, e := s.Shadow(n)
			if m == n || !block.Same(y, born(x, 2)) || e != api.OK {
				t.Errorf("%d, %v, errno %d", m, y, e)
			}
			counts(t, s, n, 1)
			counts(t, s, m, 1)
			under(2)
			shows(t, s, n, born(x, 2))
			shows(t, s, m, born(x, 2))
		})
		t.Run(kind+", elder, once", func(t *testing.T) {
			d, s, n, x, under := build(t)
			commit(t, s, n)
			m, y, e := s.Shadow(n)
			if m == n || !block.Same(y, born(x, 3)) || e != api.OK || s.Fresh() != 1 {
				t.Errorf("%d, %v, errno %d", m, y, e)
			}
			counts(t, s, n, 0)
			counts(t, s, m, 1)
			under(1)
			shows(t, s, n, born(x, 2))
			shows(t, s, m, born(x, 3))
			// Now it is fresh, and named once.
			if o, _, e := s.Shadow(m); o != m || e != api.OK {
				t.Errorf("%d, errno %d", o, e)
			}
			should(t, "Shadow of one that is named by none", third(s.Shadow(n)), api.ErrState)
			under(1)
			commit(t, s, m)
			shows(t, open(t, d), m, born(x, 3))
		})
		t.Run(kind+", elder, twice", func(t *testing.T) {
			_, s, n, x, under := build(t)
			must(t, s.Hold(n))
			commit(t, s, n)
			m, y, e := s.Shadow(n)
			if m == n || !block.Same(y, born(x, 3)) || e != api.OK {
				t.Errorf("%d, %v, errno %d", m, y, e)
			}
			counts(t, s, n, 1)
			counts(t, s, m, 1)
			under(2)
			shows(t, s, n, born(x, 2))
			shows(t, s, m, born(x, 3))
			o, _, e := s.Shadow(n)
			if o == n || o == m || e != api.OK {
				t.Errorf("%d, errno %d", o, e)
			}
			counts(t, s, n, 0)
			under(2)
		})
	}
}

func third[A, B any](_ A, _ B, e api.Errno) api.Errno { return e }

func TestShadowOfWhatIsNone(t *testing.T) {
	d, s := small(t)
	unchanged(t, d, s, "Shadow", func() {
		for n, want := range map[uint32]api.Errno{0: api.ErrArg, 16: api.ErrArg, math.MaxUint32: api.ErrArg, 9: api.ErrState, 15: api.ErrState, 1: api.ErrSound, 2: api.ErrSound} {
			if m, x, e := s.Shadow(n); m != 0 || !reflect.DeepEqual(x, api.Node{}) || e != want {
				t.Errorf("Shadow(%d): %d, %v, errno %d; want errno %d alone", n, m, x, e, want)
			}
		}
	})
	// What it names can be named no more; Abort is the way back.
	for _, x := range []*image{{meta: []uint16{5: 2}, data: []uint16{3: 65535}, blocks: map[int]api.Block{2 + 5: blockOf(t, 5, leaf(3))}}, {meta: []uint16{5: 2, 6: 65535}, blocks: map[int]api.Block{2 + 5: blockOf(t, 5, inner(6)), 2 + 6: blockOf(t, 6, leaf())}}} {
		d := crafted(t, func(y *image) {
			copy(y.meta[5:], append(x.meta, 0)[5:])
			copy(y.data, x.data)
			y.blocks = x.blocks
		})
		s := open(t, d)
		unchanged(t, d, s, "Shadow, and Abort", func() {
			if m, x, e := s.Shadow(5); m != 0 || !reflect.DeepEqual(x, api.Node{}) || e != api.ErrFull {
				t.Errorf("Shadow: %d, %v, errno %d", m, x, e)
			}
			s.Abort()
		})
	}
}

// P8.3

func TestHold(t *testing.T) {
	d, s := small(t)
	n := add(t, s, leaf())
	must(t, s.Hold(n))
	counts(t, s, n, 2)
	unchanged(t, d, s, "Hold of what is none", func() {
		must(t, s.Hold(0))
		for m, want := range map[uint32]api.Errno{16: api.ErrArg, 17: api.ErrArg, math.MaxUint32: api.ErrArg, 4: api.ErrState, 15: api.ErrState} {
			should(t, "Hold", s.Hold(m), want)
		}
	})
	for range 65533 {
		must(t, s.Hold(n))
	}
	counts(t, s, n, 65535)
	unchanged(t, d, s, "Hold of 65535", func() { should(t, "Hold", s.Hold(n), api.ErrFull) })
	commit(t, s, n)
	s = open(t, d)
	counts(t, s, n, 65535)
	should(t, "Hold", s.Hold(n), api.ErrFull)
	must(t, s.Drop(n))
	must(t, s.Hold(n))
	should(t, "Hold", s.Hold(n), api.ErrFull)
}

// forest is a store with a tree of all kinds of nodes, whose numbers are 3 to 8: two leaves (of the data blocks 0 and 1; of 2), and one (of 3) that is named three times, twice of it from elsewhere; an inner node of the three; a top of that, and of the third leaf; the root, an inner one, that is named twice.
func forest(t *testing.T) (*disk.Disk, *store.Store) {
	t.Helper()
	d, s := small(t)
	for i := range 4 {
		addData(t, s, api.Block{byte(i)})
	}
	for i, x := range []api.Node{leaf(0, 1), leaf(2), leaf(3), inner(3, 0, 4, 5), top(6, 0, 5), inner(7)} {
		if n := add(t, s, x); n != uint32(3+i) {
			t.Fatal(n)
		}
	}
	for _, n := range []uint32{5, 5, 8} {
		must(t, s.Hold(n))
	}
	return d, s
}

// Down through tops, inner nodes and leaves, and no further than what is named still.
func TestDrop(t *testing.T) {
	for _, elder := range []bool{false, true} {
		d, s := forest(t)
		if elder {
			commit(t, s, 8)
			s = open(t, d)
		}
		counts(t, s, 3, 1, 1, 3, 1, 1, 2)
		must(t, s.Drop(8))
		counts(t, s, 3, 1, 1, 3, 1, 1, 1)
		dataCounts(t, s, 1, 1, 1, 1, 0)
		must(t, s.Drop(8))
		counts(t, s, 3, 0, 0, 1, 0, 0, 0)
		dataCounts(t, s, 0, 0, 0, 1, 0)
		if elder {
			// What the last commit named is free behind the next one.
			room(t, s, 7, 4)
		} else if s.Fresh() != 1 {
			t.Error(s.Fresh())
		}
		commit(t, s, 5)
		room(t, s, 12, 7)
		must(t, s.Drop(5))
		commit(t, s, 0)
		room(t, open(t, d), 13, 8)
	}
}

func TestDropOfWhatIsNone(t *testing.T) {
	d, s := small(t)
	n := add(t, s, leaf())
	commit(t, s, n)
	unchanged(t, d, s, "Drop of what is none", func() {
		must(t, s.Drop(0))
		// 4 and 5 are the pages' blocks now: they are named, and no nodes.
		for m, want := range map[uint32]api.Errno{16: api.ErrArg, math.MaxUint32: api.ErrArg, 6: api.ErrState, 1: api.ErrState, 4: api.ErrSound, 5: api.ErrSound} {
			should(t, "Drop", s.Drop(m), want)
		}
	})
	must(t, s.Drop(n))
	unchanged(t, d, s, "Drop again", func() { should(t, "Drop", s.Drop(n), api.ErrState) })
	// What it names is none, in one way or another.
	for _, x := range []struct {
		n    api.Node
		want api.Errno
	}{
		{inner(16), api.ErrArg}, {inner(1 << 32), api.ErrArg}, {inner(1<<32 + 4), api.ErrArg}, {inner(math.MaxUint64), api.ErrArg}, {inner(15), api.ErrState}, {inner(4), api.ErrSound},
		{top(16), api.ErrArg}, {top(math.MaxUint32), api.ErrArg}, {top(15), api.ErrState}, {top(4), api.ErrSound},
		{leaf(8), api.ErrArg}, {leaf(1 << 32), api.ErrArg}, {leaf(math.MaxUint64), api.ErrArg}, {leaf(0), api.ErrState}, {inner(0, 0), api.OK}, {nodeOf(api.NodeTop, 1<<32-1, 0), api.OK},
	} {
		s.Abort()
		unchanged(t, d, s, "Drop, and Abort", func() {
			should(t, "Drop", s.Drop(add(t, s, x.n)), x.want)
			s.Abort()
		})
	}
}

// A node that names itself, and nodes that name each other, end.
func TestDropOfRounds(t *testing.T) {
	_, s := small(t)
	n := add(t, s, leaf())
	must(t, s.Put(n, inner(uint64(n))))
	should(t, "Drop", s.Drop(n), api.ErrState)
	s.Abort()
	a, b := add(t, s, leaf()), add(t, s, leaf())
	must(t, s.Put(a, inner(uint64(b))))
	must(t, s.Put(b, inner(uint64(a))))
	should(t, "Drop", s.Drop(a), api.ErrState)
}

func TestData(t *testing.T) {
	d, s := small(t)
	for i := range 8 {
		b := api.Block{0: byte(i + 1), 255: byte(i + 9)}
		// All noughts is a content, too.
		if i == 5 {
			b = api.Block{}
			lay(t, d, 2+16+i, api.Block{77})
		}
		n := addData(t, s, b)
		if n != uint32(i) || s.DataCount(n) != 1 {
			t.Errorf("data block %d, named %d times", n, s.DataCount(n))
		}
		room(t, s, 13, 7-i)
		if x, e := s.Data(n); e != api.OK || x != b || read(t, d, 2+16+i) != b {
			t.Errorf("data block %d: %x, errno %d", n, x, e)
		}
		// Written, and not flushed.
		if l := d.Open(); !slices.Contains(l, 4*(2+16+i)) {
			t.Errorf("data block %d: open %v", n, l)
		}
	}
	unchanged(t, d, s, "without room", func() {
		if n, e := s.NewData(api.Block{9}); n != 0 || e != api.ErrFull {
			t.Errorf("NewData: %d, errno %d", n, e)
		}
		for _, n := range []uint32{8, 9, 1 << 31, math.MaxUint32} {
			if b, e := s.Data(n); e != api.ErrArg || b != (api.Block{}) {
				t.Errorf("Data(%d): %x, errno %d", n, b, e)
			}
			should(t, "DropData", s.DropData(n), api.ErrArg)
		}
	})
	must(t, s.DropData(3))
	should(t, "DropData again", s.DropData(3), api.ErrState)
	dataCounts(t, s, 1, 1, 1, 0, 1)
	if n := addData(t, s, api.Block{44}); n != 3 {
		t.Error(n)
	}
	// What names them is not on the disk: only the bytes are.
	commit(t, s, 0)
	if len(d.Open()) != 0 {
		t.Error("a commit flushes")
	}
	must(t, d.Crash(nil))
	o := open(t, d)
	if b, e := o.Data(3); e != api.OK || b != (api.Block{44}) || o.DataCount(3) != 1 {
		t.Errorf("%x, errno %d", b, e)
	}
}

// A data block that a leaf named often is named once less by each Drop, as by each DropData.
func TestDropData(t *testing.T) {
	s := open(t, crafted(t, func(x *image) { x.data[2], x.data[7] = 65535, 1 }))
	must(t, s.DropData(2))
	must(t, s.DropData(7))
	dataCounts(t, s, 0, 0, 65534, 0, 0, 0, 0, 0)
	should(t, "DropData", s.DropData(7), api.ErrState)
	room(t, s, 13, 6)
}
