package store_test

import (
	"math"
	"reflect"
	"testing"

	"voile/api"
	"voile/block"
	"voile/disk"
	"voile/store"
)

// P8.5

func TestLooks(t *testing.T) {
	_, s := small(t)
	for _, n := range []uint32{16, 17, 1 << 31, math.MaxUint32} {
		if s.Count(n) != 0 {
			t.Errorf("Count(%d): %d", n, s.Count(n))
		}
	}
	for _, n := range []uint32{8, 9, 1 << 31, math.MaxUint32} {
		if s.DataCount(n) != 0 {
			t.Errorf("DataCount(%d): %d", n, s.DataCount(n))
		}
	}
	if s.Count(0) != 1 || s.Count(1) != 1 || s.Count(2) != 1 || s.Count(3) != 0 || s.Fresh() != 0 || s.Broken() {
		t.Error("a formatted store")
	}
	a := add(t, s, leaf())
	b := add(t, s, inner(uint64(a)))
	if s.Fresh() != 2 {
		t.Error(s.Fresh())
	}
	must(t, s.Hold(a))
	must(t, s.Drop(b))
	if s.Fresh() != 1 || s.Count(a) != 1 || s.Count(b) != 0 {
		t.Error(s.Fresh())
	}
	commit(t, s, a)
	if s.Fresh() != 0 {
		t.Error(s.Fresh())
	}
}

// calls are all calls that tell an error, with what is right, and with what is wrong.
func calls(s *store.Store) map[string]api.Errno {
	return map[string]api.Errno{
		"Node": second(s.Node(3)), "Node of 0": second(s.Node(0)), "Node of none": second(s.Node(99)),
		"New": second(s.New(leaf())), "New of none": second(s.New(api.Node{})),
		"Shadow": third(s.Shadow(3)), "Shadow of 0": third(s.Shadow(0)),
		"Put": s.Put(3, leaf()), "Put of none": s.Put(99, api.Node{}),
		"Hold": s.Hold(3), "Hold of 0": s.Hold(0), "Hold of none": s.Hold(99),
		"Drop": s.Drop(3), "Drop of 0": s.Drop(0), "Drop of none": s.Drop(99),
		"Free": s.Free(3), "Free of 0": s.Free(0),
		"NewData": second(s.NewData(api.Block{})),
		"Data":    second(s.Data(0)), "Data of none": second(s.Data(99)),
		"DropData": s.DropData(0), "DropData of none": s.DropData(99),
		"Commit": s.Commit(api.Super{}), "Commit of none": s.Commit(api.Super{Top: 99}),
		"Grow": s.Grow(8), "Grow of none": s.Grow(-1),
	}
}

func second[A any](_ A, e api.Errno) api.Errno { return e }

func TestNoStore(t *testing.T) {
	for _, s := range []*store.Store{nil, {}} {
		for what, e := range calls(s) {
			should(t, what, e, api.ErrNil)
		}
		s.Abort()
		m, d := s.Room()
		if s.Super() != (api.Super{}) || m != 0 || d != 0 || s.Count(0) != 0 || s.DataCount(0) != 0 || s.Fresh() != 0 || s.Broken() {
			t.Error("no store tells something")
		}
	}
}

// used is a store with a committed node 3 and data block 0, and besides a fresh node, and a fresh data block.
func used(t testing.TB) (*disk.Disk, *store.Store) {
	t.Helper()
	d, s := small(t)
	addData(t, s, api.Block{1})
	commit(t, s, add(t, s, leaf(0)))
	add(t, s, leaf())
	addData(t, s, api.Block{2})
	return d, s
}

// Whatever found the disk dead, from then on all is ErrDead, and the store tells what it told.
func TestBroken(t *testing.T) {
	for what, die := range map[string]func(d *disk.Disk, s *store.Store) api.Errno{
		"NewData": func(d *disk.Disk, s *store.Store) api.Errno {
			must(t, d.Fuse(0))
			return second(s.NewData(api.Block{4}))
		},
		"Commit": func(d *disk.Disk, s *store.Store) api.Errno { must(t, d.Fuse(9)); return s.Commit(api.Super{}) },
		"Commit, the last step": func(d *disk.Disk, s *store.Store) api.Errno {
			must(t, d.Fuse(17))
			return s.Commit(api.Super{})
		},
		"Grow": func(d *disk.Disk, s *store.Store) api.Errno { s.Abort(); must(t, d.Fuse(3)); return s.Grow(8) },
		"another hand": func(d *disk.Disk, s *store.Store) api.Errno {
			must(t, d.Fuse(0))
			return d.Flush()
		},
	} {
		for _, revived := range []bool{false, true} {
			d, s := used(t)
			should(t, what, die(d, s), api.ErrDead)
			if !s.Broken() {
				t.Errorf("%s: not broken", what)
			}
			if revived {
				must(t, d.Crash(nil))
			}
			was, before := looksOf(s), d.Copy()
			for call, e := range calls(s) {
				should(t, what+", "+call, e, api.ErrDead)
			}
			if now := looksOf(s); !reflect.DeepEqual(now, was) || !now.Broken || !same(d, before) {
				t.Errorf("%s: something is changed", what)
			}
			if x := s.Super(); x.Tx != 2 || x.Top != 3 || x.Data != 8 {
				t.Errorf("%s: %v", what, x)
			}
			s.Abort()
			if !s.Broken() || s.Fresh() != 0 || s.Count(3) != 1 || second(s.Node(3)) != api.ErrDead {
				t.Errorf("%s: behind Abort", what)
			}
		}
	}
}

// A Commit or a Grow that the disk refused has changed nothing but the disk.
func TestRefusedCommitChangesNothing(t *testing.T) {
	for fuse := range 18 {
		d, s := used(t)
		must(t, s.Drop(3))
		was := counted(s)
		must(t, d.Fuse(fuse))
		should(t, "Commit", s.Commit(api.Super{}), api.ErrDead)
		if now := counted(s); !reflect.DeepEqual(now, was) {
			t.Errorf("fuse %d: %v; want %v", fuse, now, was)
		}
		d, s = used(t)
		s.Abort()
		must(t, d.Grow(4*(2+16+9)))
		was = counted(s)
		must(t, d.Fuse(min(fuse, 13)))
		should(t, "Grow", s.Grow(9), api.ErrDead)
		if now := counted(s); !reflect.DeepEqual(now, was) {
			t.Errorf("fuse %d: %v; want %v", fuse, now, was)
		}
	}
}

// counted is what a store tells of itself without its disk.
func counted(s *store.Store) looks {
	l := looks{Super: s.Super(), Fresh: s.Fresh()}
	l.Meta, l.Data = s.Room()
	for n := range uint32(30) {
		l.Counts = append(l.Counts, int(s.Count(n)))
		l.Datas = append(l.Datas, int(s.DataCount(n)))
	}
	return l
}

// A disk that was dead when it was opened did not die under the store: it is read, till something is to be written.
func TestOpenOfADeadDisk(t *testing.T) {
	d, s := used(t)
	must(t, s.Commit(api.Super{Top: 3}))
	kill(t, d)
	if !s.Broken() {
		t.Error("its disk died under it")
	}
	o := open(t, d)
	shows(t, o, 3, born(leaf(0), 2))
	if b, e := o.Data(0); e != api.OK || b != (api.Block{1}) || o.Broken() {
		t.Errorf("%x, errno %d", b, e)
	}
	should(t, "NewData", second(o.NewData(api.Block{})), api.ErrDead)
	if !o.Broken() || second(o.Node(3)) != api.ErrDead {
		t.Error("not broken")
	}
	o = open(t, d)
	should(t, "Commit", o.Commit(api.Super{}), api.ErrDead)
	if !o.Broken() {
		t.Error("not broken")
	}
}

// What is handed in stays the caller's, and what is answered is the caller's.
func TestNothingIsShared(t *testing.T) {
	_, s := small(t)
	x := plain(1, 2, 3)
	n := add(t, s, x)
	scratch(&x)
	shows(t, s, n, born(plain(1, 2, 3), 2))
	y := plain(4, 5)
	must(t, s.Put(n, y))
	if !block.Same(y, plain(4, 5)) {
		t.Error("Put changed what it got")
	}
	scratch(&y)
	shows(t, s, n, born(plain(4, 5), 2))
	z, e := s.Node(n)
	must(t, e)
	scratch(&z)
	shows(t, s, n, born(plain(4, 5), 2))
	_, z, e = s.Shadow(n)
	must(t, e)
	scratch(&z)
	shows(t, s, n, born(plain(4, 5), 2))
	must(t, s.Hold(n))
	m, z, e := s.Shadow(n)
	must(t, e)
	scratch(&z)
	shows(t, s, n, born(plain(4, 5), 2))
	shows(t, s, m, born(plain(4, 5), 2))
	must(t, s.Put(m, plain(9)))
	shows(t, s, n, born(plain(4, 5), 2))
	b := api.Block{6}
	k := addData(t, s, b)
	b[0] = 7
	c, e := s.Data(k)
	must(t, e)
	c[0] = 8
	if c, e := s.Data(k); e != api.OK || c != (api.Block{6}) {
		t.Errorf("%x, errno %d", c, e)
	}
	u := api.Super{Top: n, Pages: [6]uint32{9}}
	must(t, s.Commit(u))
	if u != (api.Super{Top: n, Pages: [6]uint32{9}}) {
		t.Error("Commit changed what it got")
	}
	v := s.Super()
	v.Pages[0], v.Top = 15, 15
	if w := s.Super(); w.Top != n || w.Pages[0] == 15 {
		t.Error(w)
	}
	z, e = s.Node(n)
	must(t, e)
	scratch(&z)
	shows(t, s, n, born(plain(4, 5), 2))
	_, z, e = s.Shadow(n)
	must(t, e)
	scratch(&z)
	shows(t, s, n, born(plain(4, 5), 2))
}

// plain is a top leaf that names nothing.
func plain(vals ...uint64) api.Node { return nodeOf(api.NodeTop, vals...) }

// scratch changes all that a node shares with its copies.
func scratch(x *api.Node) {
	for i := range x.Keys {
		x.Keys[i], x.Vals[i] = 999, 999
	}
	x.Keys, x.Vals, x.Kind = append(x.Keys, 1000), append(x.Vals, 1000), 0
}
