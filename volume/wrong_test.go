package volume_test

import (
	"math"
	"testing"

	"voile/api"
	"voile/btree"
	"voile/store"
	"voile/volume"
)

// all are calls of each kind, of a volume and a block.
func all(v uint64, b int) []call {
	return append(changing(v, b), getting(v), finding(v, b), listing())
}

// changing are the calls that change something, of a volume that there is, and a block.
func changing(v uint64, b int) []call {
	return []call{creating(v+1000, 3), deleting(v), resizing(v, 1), snapping(v, v+1000), mapping(v, b, 0), unmapping(v, b)}
}

// two are volumes 1 (of 20 blocks, of which the even ones are mapped) and 2 (its snapshot, but for block 1), and 3 (of none); committed.
func two(t testing.TB) *pool {
	t.Helper()
	p := newPool(t, 64, 32)
	p.create(1, 20)
	p.write(1, row(0, 18, 2)...)
	p.snap(1, 2)
	p.write(2, 1)
	p.create(3, 0)
	p.commit()
	return p
}

// ErrNil stands ahead of all.
func TestNoStore(t *testing.T) {
	for _, s := range []*store.Store{nil, {}} {
		for _, top := range []uint32{0, 1, 99, math.MaxUint32} {
			for _, v := range []uint64{0, 1, mostVolume, 1 << 32} {
				for _, c := range all(v, -1) {
					refused(t, s, "no store", c, top, api.ErrNil)
				}
				for _, c := range []call{creating(v, -1), resizing(v, 257), snapping(v, v), mapping(v, 0, math.MaxUint32)} {
					refused(t, s, "no store", c, top, api.ErrNil)
				}
			}
		}
	}
}

// ErrDead stands ahead of all but ErrNil, for good.
func TestDeadStore(t *testing.T) {
	p := two(t)
	kill(t, p.d)
	for _, revived := range []bool{false, true} {
		if revived {
			must(t, p.d.Crash(nil))
		}
		for _, top := range []uint32{0, p.top, 1, 64, math.MaxUint32} {
			for _, v := range []uint64{0, 1, 4, 1 << 32} {
				for _, c := range append(all(v, 2), creating(v, -1), resizing(v, 257), snapping(v, v), mapping(v, -1, 99)) {
					wrong(t, p.d, p.s, "a dead store", c, top, api.ErrDead)
				}
			}
		}
	}
	p.s = open(t, p.d)
	p.holds()
}

// ErrArg: what may not be, whatever else is wrong.
func TestWrongArguments(t *testing.T) {
	p := two(t)
	for _, full := range []bool{false, true} {
		if full {
			fill(t, p.s, 0)
		}
		for _, v := range []uint64{0, 1 << 32, 1<<32 + 1, 1 << 63, most} {
			for _, c := range []call{getting(v), creating(v, 3), deleting(v), resizing(v, 3), snapping(v, 9), snapping(1, v), snapping(4, v), finding(v, 0), finding(v, -1), mapping(v, 0, 0), mapping(v, 99, 0), unmapping(v, 0), unmapping(v, 99)} {
				wrong(t, p.d, p.s, "a volume that may not be", c, p.top, api.ErrArg)
				wrong(t, p.d, p.s, "a volume that may not be", c, 0, api.ErrArg)
			}
		}
		for _, size := range []int{-1, 257, 1 << 32, 1<<32 + 5, math.MaxInt, math.MinInt} {
			// Of a volume that there is, and of one that there is not.
			for _, c := range []call{creating(9, size), creating(1, size), resizing(1, size), resizing(9, size)} {
				wrong(t, p.d, p.s, "a size that may not be", c, p.top, api.ErrArg)
			}
		}
		for _, v := range []uint64{1, 2, 9, mostVolume} {
			wrong(t, p.d, p.s, "a snapshot that is the volume", snapping(v, v), p.top, api.ErrArg)
		}
		for _, data := range []uint32{32, 33, 480, 1 << 31, math.MaxUint32} {
			for _, c := range []call{mapping(1, 0, data), mapping(1, 20, data), mapping(9, 0, data), mapping(3, -1, data)} {
				wrong(t, p.d, p.s, "a data block that there is not", c, p.top, api.ErrArg)
			}
		}
		for _, top := range []uint32{64, 65, 240, 1 << 31, math.MaxUint32} {
			for _, c := range all(1, 2) {
				wrong(t, p.d, p.s, "a root that there is not", c, top, api.ErrArg)
			}
			for _, c := range all(9, -1) {
				wrong(t, p.d, p.s, "a root that there is not", c, top, api.ErrArg)
			}
		}
	}
	// The greatest that may be.
	p = two(t)
	p.create(mostVolume, 256)
	p.snap(1, mostVolume-1)
	p.resize(1, 256)
	for range 20 {
		p.write(1, 255)
	}
	p.holds()
}

// ErrNone, ErrExists, ErrRange: in this order, and behind ErrArg; ahead of all that the store would tell.
func TestVolumesAndBlocksThatThereAreNot(t *testing.T) {
	p := two(t)
	for _, full := range []bool{false, true} {
		if full {
			fill(t, p.s, 0)
		}
		for _, v := range []uint64{4, 5, 1 << 31, mostVolume} {
			for _, b := range []int{0, 2, -1, 20, 999} {
				for _, c := range []call{deleting(v), resizing(v, 9), resizing(v, 0), snapping(v, 77), snapping(v, 1), finding(v, b), mapping(v, b, 0), unmapping(v, b)} {
					wrong(t, p.d, p.s, "a volume that there is not", c, p.top, api.ErrNone)
				}
			}
			if root, size, is, e := volume.Get(p.s, p.top, v); root != 0 || size != 0 || is || e != api.OK {
				t.Errorf("Get(%d): %d, %d, %v, errno %d", v, root, size, is, e)
			}
		}
		for _, v := range []uint64{1, 2, 3} {
			for _, size := range []int{0, 20, 256} {
				wrong(t, p.d, p.s, "a volume that there is", creating(v, size), p.top, api.ErrExists)
			}
			for _, to := range []uint64{1, 2, 3} {
				if to != v {
					wrong(t, p.d, p.s, "a snapshot that there is", snapping(v, to), p.top, api.ErrExists)
				}
			}
		}
		for _, v := range []uint64{1, 2, 3} {
			for _, b := range []int{-1, 20, 21, 255, 256, 1 << 32, math.MaxInt, math.MinInt} {
				for _, c := range []call{finding(v, b), mapping(v, b, 0), unmapping(v, b)} {
					wrong(t, p.d, p.s, "a block that it has not", c, p.top, api.ErrRange)
				}
			}
		}
		for _, c := range []call{finding(3, 0), mapping(3, 0, 0), unmapping(3, 0)} {
			wrong(t, p.d, p.s, "a volume of no block", c, p.top, api.ErrRange)
		}
	}
}

// What the store tells comes behind all that is told of volumes and blocks.
func TestWhatTheStoreTells(t *testing.T) {
	// The map's root can't be read.
	p := two(t)
	root, _, _, _ := volume.Get(p.s, p.top, 1)
	spoil(t, p.d, root)
	for _, c := range []call{finding(1, 20), mapping(1, -1, 0), unmapping(1, 20)} {
		wrong(t, p.d, p.s, "a block that it has not", c, p.top, api.ErrRange)
	}
	wrong(t, p.d, p.s, "a volume that there is", creating(1, 1), p.top, api.ErrExists)
	wrong(t, p.d, p.s, "a volume that there is", snapping(1, 2), p.top, api.ErrExists)
	for _, c := range []call{finding(1, 2), mapping(1, 2, 0), mapping(1, 3, 0), unmapping(1, 2), unmapping(1, 3), resizing(1, 3), deleting(1)} {
		wrong(t, p.d, p.s, "a map that can't be read", c, p.top, api.ErrSound)
	}
	// Nobody asks for it where it is not needed.
	if _, size, is, e := volume.Get(p.s, p.top, 1); size != 20 || !is || e != api.OK {
		t.Errorf("Get: %d, %v, errno %d", size, is, e)
	}
	mapShows(t, p.s, p.top, 2, p.list[2])
	p.top = retold(t, p.s, p.top, snapping(1, 50))
	p.top = retold(t, p.s, p.top, resizing(1, 21))
	p.top = retold(t, p.s, p.top, deleting(50))
	p.top = retold(t, p.s, p.top, creating(50, 1))

	// The top tree's leaf with the volume 3 can't be read, or the one with 40.
	for _, far := range []bool{false, true} {
		p := newPool(t, 64, 8)
		for n := uint64(1); n < 50; n++ {
			p.create(n, 2)
		}
		p.commit()
		x, e := p.s.Node(p.top)
		must(t, e)
		if far {
			spoil(t, p.d, lastLeaf(t, p.s, p.top))
			wrong(t, p.d, p.s, "whether both are there is not known", snapping(1<<20, 1<<21), p.top, api.ErrSound)
			wrong(t, p.d, p.s, "a volume that is taken", snapping(49, 1), p.top, api.ErrExists)
			wrong(t, p.d, p.s, "a leaf that can't be read", snapping(1, 49), p.top, api.ErrSound)
			for _, c := range all(49, 1) {
				wrong(t, p.d, p.s, "a leaf that can't be read", c, p.top, api.ErrSound)
			}
			got(t, p.s, p.top, 1, p.list)
			continue
		}
		spoil(t, p.d, uint32(x.Vals[0]))
		for _, c := range all(1, 1) {
			want := api.ErrSound
			if c.what == "Create" {
				continue
			}
			wrong(t, p.d, p.s, "a node that can't be read", c, p.top, want)
		}
		got(t, p.s, p.top, 49, p.list)
		wrong(t, p.d, p.s, "a volume that there is not", snapping(60, 1), p.top, api.ErrNone)
	}
}

// lastLeaf is a tree's last leaf.
func lastLeaf(t testing.TB, s *store.Store, n uint32) uint32 {
	t.Helper()
	x, e := s.Node(n)
	must(t, e)
	if x.Kind != api.NodeInner {
		return n
	}
	return lastLeaf(t, s, uint32(x.Vals[len(x.Vals)-1]))
}

// retold calls what must be done, and tells the new top.
func retold(t testing.TB, s *store.Store, top uint32, c call) uint32 {
	t.Helper()
	a := c.do(s, top)
	if a.e != api.OK {
		t.Fatalf("%s: errno %d", c.what, a.e)
	}
	return a.root
}

// A top that is named by none can be looked at, and not changed.
func TestTopThatIsNamedByNone(t *testing.T) {
	p := two(t)
	must(t, p.s.Hold(p.top))
	top := p.top
	p.create(9, 1)
	p.delete(9)
	must(t, p.s.Drop(top))
	shows(t, p.s, top, p.list)
	for _, c := range changing(1, 2) {
		wrong(t, p.d, p.s, "a top that is named by none", c, top, api.ErrState)
	}
	p.holds()
}

// A block that is no node's, and one that is free.
func TestTopThatIsNoNode(t *testing.T) {
	p := two(t)
	for _, top := range []uint32{1, 2, 63} {
		for _, c := range all(1, 2) {
			wrong(t, p.d, p.s, "a top that is no node's", c, top, api.ErrSound)
		}
	}
}

// A map is no top tree.
func TestMapAsATop(t *testing.T) {
	p := two(t)
	root, _, _, _ := volume.Get(p.s, p.top, 1)
	for _, v := range []uint64{1, 2, 3, 18, 19} {
		for _, c := range all(v, 0) {
			wrong(t, p.d, p.s, "a map as a top", c, root, api.ErrSound)
		}
	}
}

// given is a top tree of one leaf, by hand.
func given(t testing.TB, s *store.Store, keys, vals []uint64) uint32 {
	t.Helper()
	n, e := s.New(api.Node{Kind: api.NodeTop, Keys: keys, Vals: vals})
	must(t, e)
	return n
}

// Values that no volume has.
func TestValuesThatMayNotBe(t *testing.T) {
	for _, x := range []struct {
		what string
		val  uint64
		want api.Errno
	}{
		{"a root that there is not", 64<<32 + 8, api.ErrArg},
		{"a root that there is not", 1<<63 + 8, api.ErrArg},
		{"a root that there is not", most, api.ErrArg},
		{"a size that may not be", 257, api.ErrSound},
		{"a size that may not be", 1 << 31, api.ErrSound},
		{"a size that may not be", 1<<32 - 1, api.ErrSound},
	} {
		for _, committed := range []bool{false, true} {
			d, s := begin(t, 64, 8)
			top := given(t, s, []uint64{3, 5}, []uint64{7, x.val})
			if committed {
				must(t, s.Commit(api.Super{Top: top}))
			}
			for _, c := range all(5, 1) {
				if c.what != "Create" {
					wrong(t, d, s, x.what, c, top, x.want)
				}
			}
			wrong(t, d, s, x.what, creating(5, 1), top, x.want)
			if _, size, is, e := volume.Get(s, top, 3); size != 7 || !is || e != api.OK {
				t.Errorf("Get: %d, %v, errno %d", size, is, e)
			}
			must(t, s.Put(given(t, s, nil, nil), api.Node{Kind: api.NodeTop}))
		}
	}
	d, s := begin(t, 64, 8)
	for _, key := range []uint64{0, 1 << 32, most} {
		top := given(t, s, []uint64{key}, []uint64{7})
		wrong(t, d, s, "a number that may not be", listing(), top, api.ErrSound)
	}
	// The root of a block that is free, or a page's.
	for _, root := range []uint64{1, 2, 40} {
		top := given(t, s, []uint64{5}, []uint64{root<<32 + 8})
		for _, c := range []call{finding(5, 1), mapping(5, 1, 0), unmapping(5, 1), resizing(5, 1), deleting(5)} {
			want := api.ErrSound
			if root == 40 && c.what == "Delete" {
				want = api.ErrState
			}
			wrong(t, d, s, "a map that is none", c, top, want)
		}
		if root == 40 {
			wrong(t, d, s, "a map that is named by none", snapping(5, 6), top, api.ErrState)
		}
	}
}

// A map whose values are no data blocks, or such as are named by none, is not let go of.
func TestDataBlocksThatMayNotBe(t *testing.T) {
	for val, want := range map[uint64]api.Errno{8: api.ErrArg, 1 << 32: api.ErrArg, most: api.ErrArg, 3: api.ErrState} {
		d, s := begin(t, 64, 8)
		root, _, _, e := btree.Put(s, 0, api.NodeMap, 2, val)
		must(t, e)
		top := given(t, s, []uint64{5}, []uint64{uint64(root)<<32 + 8})
		calls := []call{mapping(5, 2, 0), unmapping(5, 2), resizing(5, 2), deleting(5)}
		if want == api.ErrArg {
			calls = append(calls, finding(5, 2))
		}
		for _, c := range calls {
			wrong(t, d, s, "a data block that may not be", c, top, want)
			// Where it is not let go of, it is let be: another one has the map, too.
			if c.what == "Delete" {
				must(t, s.Hold(root))
				must(t, s.Hold(top))
				if want == api.ErrState {
					next := retold(t, s, top, c)
					if next != 0 {
						t.Errorf("Delete: the top %d", next)
					}
				}
			}
		}
	}
	// One data block in two places, that is named once.
	d, s := begin(t, 64, 8)
	n, e := s.NewData(api.Block{1})
	must(t, e)
	root, _, _, e := btree.Put(s, 0, api.NodeMap, 2, uint64(n))
	must(t, e)
	root, _, _, e = btree.Put(s, root, api.NodeMap, 4, uint64(n))
	must(t, e)
	top := given(t, s, []uint64{5}, []uint64{uint64(root)<<32 + 8})
	for _, c := range []call{resizing(5, 0), resizing(5, 2), deleting(5)} {
		wrong(t, d, s, "named less often than it stands there", c, top, api.ErrState)
	}
}

// A map that is not sound is not cut, and not dropped; where another one has it, it needs not be looked at.
func TestMapThatIsNotSound(t *testing.T) {
	for _, x := range []struct {
		what string
		hang func(t testing.TB, s *store.Store) uint32
		do   map[string]api.Errno
	}{
		{"a top tree as a map", func(t testing.TB, s *store.Store) uint32 {
			return given(t, s, []uint64{1, 2, 3}, []uint64{4, 4, 4})
		}, map[string]api.Errno{"Find": api.ErrSound, "Map": api.ErrSound, "Unmap": api.ErrSound, "Resize": api.ErrSound, "Delete": api.ErrSound}},
		{"an inner node without children", func(t testing.TB, s *store.Store) uint32 {
			n, e := s.New(api.Node{Kind: api.NodeInner})
			must(t, e)
			return n
		}, map[string]api.Errno{"Find": api.ErrSound, "Map": api.ErrSound, "Unmap": api.ErrSound, "Resize": api.ErrSound}},
		{"a child that there is not", func(t testing.TB, s *store.Store) uint32 {
			n, e := s.New(api.Node{Kind: api.NodeInner, Keys: []uint64{1, 2}, Vals: []uint64{99, 1 << 40}})
			must(t, e)
			return n
		}, map[string]api.Errno{"Find": api.ErrArg, "Map": api.ErrArg, "Unmap": api.ErrArg, "Resize": api.ErrArg, "Delete": api.ErrArg}},
		{"a node that names itself", func(t testing.TB, s *store.Store) uint32 {
			n, e := s.New(api.Node{Kind: api.NodeInner})
			must(t, e)
			must(t, s.Put(n, api.Node{Kind: api.NodeInner, Keys: []uint64{1, 2}, Vals: []uint64{uint64(n), uint64(n)}}))
			return n
		}, map[string]api.Errno{"Find": api.ErrSound, "Map": api.ErrSound, "Unmap": api.ErrSound, "Resize": api.ErrSound, "Delete": api.ErrState}},
		{"leaves of two kinds", func(t testing.TB, s *store.Store) uint32 {
			a, e := s.New(api.Node{Kind: api.NodeMap, Keys: []uint64{0, 1}, Vals: []uint64{0, 0}})
			must(t, e)
			b := given(t, s, []uint64{2, 3}, []uint64{4, 4})
			n, e := s.New(api.Node{Kind: api.NodeInner, Keys: []uint64{0, 2}, Vals: []uint64{uint64(a), uint64(b)}})
			must(t, e)
			return n
		}, map[string]api.Errno{"Find": api.ErrSound, "Map": api.ErrSound, "Unmap": api.ErrSound, "Resize": api.ErrSound}},
	} {
		for _, committed := range []bool{false, true} {
			d, s := begin(t, 64, 8)
			root := x.hang(t, s)
			top := given(t, s, []uint64{5, 7}, []uint64{uint64(root)<<32 + 8, 4})
			if committed {
				must(t, s.Commit(api.Super{Top: top}))
			}
			for _, c := range []call{finding(5, 2), mapping(5, 2, 0), unmapping(5, 2), resizing(5, 2), deleting(5)} {
				if want, is := x.do[c.what]; is {
					wrong(t, d, s, x.what, c, top, want)
				}
			}
			must(t, s.Hold(root))
			next := retold(t, s, top, deleting(5))
			if _, _, is, e := volume.Get(s, next, 5); is || e != api.OK || s.Count(root) != 1 {
				t.Errorf("%s: Delete: %v, errno %d; the map is named %d times", x.what, is, e, s.Count(root))
			}
		}
	}
}

// need tells how many free metadata blocks a call needs: with fewer it is ErrFull, and has changed nothing. (Of a pool that is made anew for each.)
func need(t testing.TB, what string, make func() *pool, c call, held bool) int {
	t.Helper()
	for left := 0; ; left++ {
		p := make()
		if held {
			must(t, p.s.Hold(p.top))
		}
		if m, _ := p.s.Room(); m < left {
			t.Fatalf("%s: refused with %d free blocks", what, left)
		}
		fill(t, p.s, left)
		a := answer{}
		was, before := looksOf(p.s), p.d.Copy()
		if a = c.do(p.s, p.top); a.e == api.OK {
			if held {
				shows(t, p.s, p.top, p.list)
			}
			return left
		}
		if a.root != 0 || a.is || a.e != api.ErrFull {
			t.Errorf("%s: %+v; want errno %d alone", what, a, api.ErrFull)
		}
		same(t, p.d, p.s, what, was, before)
		shows(t, p.s, p.top, p.list)
	}
}

// ErrFull: just where there is less room than a call needs; where all is fresh, and named once, where it was committed, and where it is held besides.
func TestRoom(t *testing.T) {
	empty := func(t testing.TB) *pool { return newPool(t, 64, 64) }
	some := func(t testing.TB) *pool {
		p := newPool(t, 64, 64)
		p.create(1, 40)
		p.create(2, 0)
		return p
	}
	six := func(t testing.TB) *pool {
		p := some(t)
		for n := uint64(3); n < 7; n++ {
			p.create(n, 1)
		}
		p.write(1, row(0, 5, 1)...)
		return p
	}
	deep := func(t testing.TB) *pool {
		p := some(t)
		p.write(1, row(0, 39, 1)...)
		return p
	}
	many := func(t testing.TB) *pool {
		p := deep(t)
		for n := uint64(3); n < 20; n++ {
			p.create(n, 1)
		}
		return p
	}
	for _, x := range []struct {
		what  string
		begin func(t testing.TB) *pool
		c     call
		wants [3]int
	}{
		{"the first volume", empty, creating(1, 3), [3]int{1, 1, 1}},
		{"a volume beside others", some, creating(3, 3), [3]int{0, 1, 1}},
		{"a volume that splits the leaf", six, creating(7, 3), [3]int{2, 3, 3}},
		{"a snapshot", some, snapping(1, 9), [3]int{0, 1, 1}},
		{"a snapshot that splits the leaf", six, snapping(1, 9), [3]int{2, 3, 3}},
		{"Delete", some, deleting(1), [3]int{0, 1, 1}},
		{"Delete of one that is mapped", deep, deleting(1), [3]int{0, 1, 1}},
		{"Delete of one of many", many, deleting(1), [3]int{0, 3, 3}},
		{"Resize", some, resizing(1, 3), [3]int{0, 1, 1}},
		{"Resize of one of many", many, resizing(1, 41), [3]int{0, 2, 2}},
		{"Resize that cuts a leaf", six, resizing(1, 3), [3]int{0, 2, 2}},
		{"Resize that cuts all", six, resizing(1, 0), [3]int{0, 2, 2}},
		{"the first block", some, mapping(1, 3, 0), [3]int{1, 2, 2}},
		{"a block again", six, mapping(1, 3, 0), [3]int{0, 2, 2}},
		{"a block that splits the leaf", six, mapping(1, 6, 0), [3]int{2, 4, 4}},
		{"a block again, of three levels", deep, mapping(1, 3, 0), [3]int{0, 4, 4}},
		{"a block again, of one of many", many, mapping(1, 3, 0), [3]int{0, 5, 5}},
		{"Unmap", six, unmapping(1, 3), [3]int{0, 2, 2}},
		{"Unmap that joins", deep, unmapping(1, 3), [3]int{0, 5, 5}},
	} {
		for i, want := range x.wants {
			n := need(t, x.what, func() *pool {
				p := x.begin(t)
				if i > 0 {
					p.commit()
				}
				return p
			}, x.c, i > 1)
			if n != want {
				t.Errorf("%s (%d): %d blocks are needed; want %d", x.what, i, n, want)
			}
		}
	}
}

// A Resize that cuts is refused with each number of free blocks that is too small, wherever it cuts, and has changed nothing.
func TestRoomOfACut(t *testing.T) {
	for _, fresh := range []bool{false, true} {
		for size := 0; size < 40; size += 3 {
			make := func() *pool {
				p := newPool(t, 64, 64)
				p.create(1, 40)
				p.write(1, row(0, 39, 1)...)
				p.commit()
				if fresh {
					// The way is fresh, and most of the map is not.
					p.write(1, 20)
				}
				return p
			}
			for _, held := range []bool{false, true} {
				n := need(t, "a cut", make, resizing(1, size), held)
				if n < 1 || n > 12 {
					t.Errorf("%d to 40: %d blocks are needed", size, n)
				}
			}
		}
	}
}

// A count that has no room for one more.
func TestCountWithoutRoom(t *testing.T) {
	p := newPool(t, 64, 8)
	p.create(1, 8)
	p.write(1, 1)
	p.commit()
	root, _, _, _ := volume.Get(p.s, p.top, 1)
	for p.s.Count(root) < math.MaxUint16 {
		must(t, p.s.Hold(root))
	}
	wrong(t, p.d, p.s, "a map that is named as often as can be", snapping(1, 2), p.top, api.ErrFull)
	must(t, p.s.Drop(root))
	p.snap(1, 2)
	shows(t, p.s, p.top, p.list)
	// Held besides, all that a leaf names would be named once more.
	must(t, p.s.Hold(p.top))
	for _, c := range []call{creating(3, 1), deleting(1), resizing(1, 9), snapping(1, 3), mapping(1, 1, 0), unmapping(1, 1), resizing(1, 1)} {
		wrong(t, p.d, p.s, "a map that is named as often as can be", c, p.top, api.ErrFull)
	}
	shows(t, p.s, p.top, p.list)
}

// No data block that was handed in is lost: where Map is refused, it is the caller's still.
func TestDataBlockOfAMapThatIsRefused(t *testing.T) {
	p := two(t)
	m := p.data()
	fill(t, p.s, 0)
	for _, c := range []call{mapping(1, 1, m.data), mapping(1, 0, m.data), mapping(1, 20, m.data), mapping(9, 0, m.data), mapping(0, 0, m.data)} {
		if a := c.do(p.s, p.top); a.e == api.OK || p.s.DataCount(m.data) != 1 {
			t.Errorf("Map: %+v; the data block is named %d times", a, p.s.DataCount(m.data))
		}
	}
	must(t, p.s.DropData(m.data))
}
