package diff_test

import (
	"math"
	"slices"
	"testing"

	"voile/api"
	"voile/diff"
	"voile/disk"
	"voile/store"
)

// both holds that both ways round are refused, and change nothing.
func both(t testing.TB, d *disk.Disk, s *store.Store, what string, old, new uint32, want api.Errno) {
	t.Helper()
	unchanged(t, d, s, what, func() {
		refused(t, s, what, old, new, want)
		refused(t, s, what, new, old, want)
	})
}

// ErrNil stands ahead of all.
func TestNoStore(t *testing.T) {
	for _, s := range []*store.Store{nil, {}} {
		for _, a := range []uint32{0, 1, 99, math.MaxUint32} {
			for _, b := range []uint32{0, 1, 99, math.MaxUint32} {
				refused(t, s, "no store", a, b, api.ErrNil)
			}
		}
	}
}

// ErrDead stands ahead of all but ErrNil, for good.
func TestDeadStore(t *testing.T) {
	d, s := begin(t, 16, 8)
	root := tops(t, s, 3, 4, 5)
	commit(t, s, 0, root)
	fresh := tops(t, s, 5, 6)
	kill(t, d)
	for _, revived := range []bool{false, true} {
		if revived {
			must(t, d.Crash(nil))
		}
		for _, a := range []uint32{0, root, fresh, 1, 16, math.MaxUint32} {
			for _, b := range []uint32{0, root, fresh, 1, 16, math.MaxUint32} {
				both(t, d, s, "a dead store", a, b, api.ErrDead)
			}
		}
	}
	// Of one that is opened anew it is told.
	differs(t, open(t, d), 0, root, nil, listed(3, 4, 5))
}

// A root that there is not is ErrArg, the one, the other one, or both, ahead of what is wrong with the other one.
func TestRootThatThereIsNot(t *testing.T) {
	d, s := begin(t, 64, 8)
	root, bad := tops(t, s, row(1, 30, 1)...), tops(t, s, 3, 4, 5)
	commit(t, s, root, bad)
	spoil(t, d, bad)
	bare := inner(t, s, nil)
	deep := chain(t, s, 21)
	for _, none := range []uint32{64, 65, 240, 1 << 31, math.MaxUint32} {
		for _, other := range []uint32{0, root, bad, bare, deep, none, 64, math.MaxUint32} {
			both(t, d, s, "a root that there is not", none, other, api.ErrArg)
		}
	}
	// The block of a page, and one that is free, are none's.
	for _, none := range []uint32{1, 2, 63} {
		for _, other := range []uint32{0, root, bare, none} {
			both(t, d, s, "a root that is no node's", none, other, api.ErrSound)
		}
	}
}

// shared is a store with a tree that is held, what became of it, and one that shares nothing with both; all committed.
func shared(t testing.TB) (d *disk.Disk, s *store.Store, old, root, other uint32) {
	t.Helper()
	d, s = begin(t, 160, 8)
	old = tops(t, s, row(1, 60, 1)...)
	other = tops(t, s, row(30, 90, 2)...)
	root = hold(t, s, old)
	for _, k := range []uint64{1, 30, 60} {
		root = with(t, s, root, k, 5000)
	}
	commit(t, s, old, root)
	return d, s, old, root, other
}

// A node's block that is none's of its number is ErrSound, wherever it stands in one of the trees alone.
func TestNodeThatIsNoNode(t *testing.T) {
	_, s, old, root, _ := shared(t)
	had, has := nodes(t, s, old), nodes(t, s, root)
	if l := apart(had, has); len(l) < 5 || len(l) > len(had)-5 {
		t.Fatalf("%v and %v share too little, or too much", had, has)
	}
	for _, n := range had {
		d, s, old, root, other := shared(t)
		spoil(t, d, n)
		both(t, d, s, "a block that is none's", old, 0, api.ErrSound)
		both(t, d, s, "a block that is none's", old, other, api.ErrSound)
		if n == old {
			both(t, d, s, "a block that is none's", old, old, api.ErrSound)
		}
		if slices.Contains(has, n) {
			both(t, d, s, "a block that is none's", root, 0, api.ErrSound)
			continue
		}
		both(t, d, s, "a block that is none's", old, root, api.ErrSound)
		// The other tree has it not.
		want := listed(row(1, 60, 1)...)
		want[1], want[30], want[60] = 5000, 5000, 5000
		told(t, s, root, other, plain(want, listed(row(30, 90, 2)...)))
		told(t, s, root, root, nil)
	}
}

// A node that is another one's block is none's either; one of the right number, but with another byte, is none's.
func TestBlockOfAnotherNumber(t *testing.T) {
	for _, at := range []int{0, 3, 4, 5, 6, 8, 12, 20, 28, 255} {
		d, s, old, root, _ := shared(t)
		n := apart(nodes(t, s, old), nodes(t, s, root))[1]
		sector := 4*(2+int(n)) + at/64
		b, e := d.Read(sector)
		must(t, e)
		b[at%64]++
		must(t, d.Write(sector, b))
		both(t, d, s, "another byte", old, root, api.ErrSound)
	}
	d, s, old, root, _ := shared(t)
	l := apart(nodes(t, s, old), nodes(t, s, root))
	for i := range 4 {
		b, e := d.Read(4*(2+int(l[2])) + i)
		must(t, e)
		must(t, d.Write(4*(2+int(l[1]))+i, b))
	}
	both(t, d, s, "another one's block", old, root, api.ErrSound)
}

// An inner node without children, as a root or further down.
func TestInnerNodeWithoutChildren(t *testing.T) {
	for _, committed := range []bool{false, true} {
		d, s := begin(t, 64, 8)
		good := tops(t, s, row(1, 30, 1)...)
		bare := inner(t, s, nil)
		low := inner(t, s, []uint64{10, 40, 70}, leaf(t, s, 10, 20, 30), bare, leaf(t, s, 70, 80, 90))
		deep := inner(t, s, []uint64{1, 10}, leaf(t, s, 1, 2, 3), low)
		if committed {
			commit(t, s, bare, deep)
		}
		for _, wrong := range []uint32{bare, low, deep} {
			for _, other := range []uint32{0, good, bare} {
				both(t, d, s, "an inner node without children", wrong, other, api.ErrSound)
			}
		}
		differs(t, s, 0, good, nil, listed(row(1, 30, 1)...))
	}
}

// chain is a row of inner nodes, so many, each with one child, and a leaf under them.
func chain(t testing.TB, s *store.Store, many int) uint32 {
	t.Helper()
	n := leaf(t, s, 5)
	for range many {
		n = inner(t, s, []uint64{5}, n)
	}
	return n
}

// A node may stand 20 deep under the root, and no deeper.
func TestDeepNodes(t *testing.T) {
	for many := range 24 {
		d, s := begin(t, 64, 8)
		good := tops(t, s, row(1, 30, 1)...)
		deep := chain(t, s, many)
		for _, committed := range []bool{false, true} {
			if committed {
				commit(t, s, good, deep)
			}
			if many > 20 {
				both(t, d, s, "too deep", deep, 0, api.ErrSound)
				both(t, d, s, "too deep", deep, good, api.ErrSound)
				continue
			}
			differs(t, s, deep, good, listed(5), listed(row(1, 30, 1)...))
		}
	}
}

// loop is an inner node that names itself in each place.
func loop(t testing.TB, s *store.Store, places int) uint32 {
	t.Helper()
	x := api.Node{Kind: api.NodeInner}
	n := add(t, s, x)
	for i := range places {
		x.Keys, x.Vals = append(x.Keys, uint64(i)), append(x.Vals, uint64(n))
	}
	must(t, s.Put(n, x))
	return n
}

func TestNodeThatNamesItself(t *testing.T) {
	for places := 1; places <= 6; places++ {
		d, s := begin(t, 64, 8)
		good := tops(t, s, row(1, 30, 1)...)
		self, other := loop(t, s, places), loop(t, s, 7-places)
		over := inner(t, s, []uint64{0, 5}, leaf(t, s, 1, 2, 3), self)
		for _, committed := range []bool{false, true} {
			if committed {
				commit(t, s, self, over)
			}
			for _, wrong := range []uint32{self, over} {
				for _, other := range []uint32{0, good, other} {
					both(t, d, s, "a loop", wrong, other, api.ErrSound)
				}
			}
		}
	}
	// Two that name one another.
	d, s := begin(t, 64, 8)
	a := add(t, s, api.Node{Kind: api.NodeInner})
	b := inner(t, s, []uint64{5}, a)
	must(t, s.Put(a, api.Node{Kind: api.NodeInner, Keys: []uint64{5}, Vals: []uint64{uint64(b)}}))
	for _, wrong := range []uint32{a, b} {
		both(t, d, s, "two that name one another", wrong, 0, api.ErrSound)
		both(t, d, s, "two that name one another", wrong, tops(t, s, 4, 5, 6), api.ErrSound)
	}
}

// What is wrong under a node that both trees have is not looked at, so it is not told.
func TestWrongUnderWhatBothHave(t *testing.T) {
	d, s := begin(t, 100, 8)
	a, b := leaf(t, s, 10, 20, 30), leaf(t, s, 70, 80, 90)
	none := add(t, s, api.Node{Kind: api.NodeInner, Keys: []uint64{40, 50}, Vals: []uint64{99999, 0}})
	wrongs := []uint32{none, inner(t, s, []uint64{40, 50}, inner(t, s, nil), inner(t, s, nil)), chain(t, s, 21), loop(t, s, 1)}
	wants := []api.Errno{api.ErrArg, api.ErrSound, api.ErrSound, api.ErrSound}
	for i, wrong := range wrongs {
		old := inner(t, s, []uint64{10, 40}, a, wrong)
		root := inner(t, s, []uint64{40, 70}, wrong, b)
		want := plain(listed(10, 20, 30), listed(70, 80, 90))
		if x, _ := s.Node(wrong); x.Keys[0] < 40 {
			// By its keys it stands ahead of all.
			old, root = inner(t, s, []uint64{0, 10}, wrong, a), inner(t, s, []uint64{0, 70}, wrong, b)
		}
		unchanged(t, d, s, "wrong under what both have", func() {
			if l, e := diff.Of(s, old, root); !slices.Equal(l, want) || e != api.OK {
				t.Errorf("Of: %v, errno %d; want %v", l, e, want)
			}
			only(t, s, old, root, apart([]uint32{old, a}, nil), apart([]uint32{root, b}, nil))
			told, e := diff.Of(s, wrong, wrong)
			if len(told) != 0 || e != api.OK {
				t.Errorf("beside itself: %v, errno %d", told, e)
			}
		})
		both(t, d, s, "wrong in one alone", old, b, wants[i])
	}
}

// Twenty nodes that name the next one in each place are more ways down than can be gone: each call ends.
func TestNodesThatStandAgainAndAgain(t *testing.T) {
	d, s := begin(t, 100, 8)
	hang := func(n uint32) uint32 {
		for range 20 {
			n = inner(t, s, []uint64{0, 1, 2, 3, 4, 5}, n, n, n, n, n, n)
		}
		return n
	}
	a, b := hang(leaf(t, s, 1, 2, 3)), hang(leaf(t, s, 1, 2, 4))
	both(t, d, s, "again and again", a, 0, api.ErrSound)
	both(t, d, s, "again and again", a, b, api.ErrSound)
	both(t, d, s, "again and again", a, leaf(t, s, 1), api.ErrSound)
}

// A child that there is not is the store's ErrArg, ahead of all that is ErrSound, wherever that stands: numbers of no block, and of none that could be, among them.
func TestChildThatThereIsNot(t *testing.T) {
	for _, no := range []uint64{0, 64, 240, 1 << 31, math.MaxUint32, 1<<32 + 5, 5 << 32, 1 << 63, most} {
		d, s := begin(t, 64, 8)
		good := tops(t, s, row(1, 30, 1)...)
		bare := inner(t, s, nil)
		names := func(vals ...uint64) uint32 {
			return add(t, s, api.Node{Kind: api.NodeInner, Keys: row(10, uint64(10*len(vals)), 10), Vals: vals})
		}
		a, b := names(uint64(leaf(t, s, 10, 11, 12)), no), names(no, uint64(bare), uint64(leaf(t, s, 30, 31, 32)))
		c := names(uint64(bare), uint64(names(uint64(leaf(t, s, 20, 21, 22)), no)))
		spoiled := leaf(t, s, 7)
		commit(t, s, a, spoiled)
		spoil(t, d, spoiled)
		for _, wrong := range []uint32{a, b, c} {
			for _, other := range []uint32{0, good, spoiled, bare, a, b, c} {
				if other != wrong {
					both(t, d, s, "a child that there is not", wrong, other, api.ErrArg)
				}
			}
		}
	}
}

// What follows from what was promised holds of trees that were let go, too, as long as their blocks are there.
func TestTreeThatIsNamedByNone(t *testing.T) {
	_, s, old, root, other := shared(t)
	want, e := diff.Of(s, old, root)
	must(t, e)
	must(t, s.Drop(old))
	must(t, s.Drop(root))
	told(t, s, old, root, want)
	must(t, s.Drop(other))
	told(t, s, other, other, nil)
}
