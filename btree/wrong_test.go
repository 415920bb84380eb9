package btree_test

import (
	"math"
	"slices"
	"testing"

	"voile/api"
	"voile/btree"
	"voile/disk"
	"voile/store"
)

// allRefused holds that each call is refused with an error, with nothing beside it.
func allRefused(t testing.TB, s *store.Store, what string, root uint32, kind api.NodeKind, want api.Errno) {
	t.Helper()
	if v, is, e := btree.Get(s, root, 5); v != 0 || is || e != want {
		t.Errorf("%s: Get: %d, %v, errno %d; want errno %d alone", what, v, is, e, want)
	}
	if r, v, is, e := btree.Put(s, root, kind, 5, 9); r != 0 || v != 0 || is || e != want {
		t.Errorf("%s: Put: %d, %d, %v, errno %d; want errno %d alone", what, r, v, is, e, want)
	}
	if r, v, is, e := btree.Delete(s, root, 5); r != 0 || v != 0 || is || e != want {
		t.Errorf("%s: Delete: %d, %d, %v, errno %d; want errno %d alone", what, r, v, is, e, want)
	}
	if l, e := btree.All(s, root, 0); l != nil || e != want {
		t.Errorf("%s: All: %v, errno %d; want errno %d alone", what, l, e, want)
	}
	if l, e := btree.Nodes(s, root); l != nil || e != want {
		t.Errorf("%s: Nodes: %v, errno %d; want errno %d alone", what, l, e, want)
	}
	should(t, what+": Check", btree.Check(s, root, kind), want)
}

// ErrNil stands ahead of all.
func TestNoStore(t *testing.T) {
	for _, s := range []*store.Store{nil, {}} {
		for _, root := range []uint32{0, 1, 99, math.MaxUint32} {
			for _, kind := range []api.NodeKind{api.NodeTop, api.NodeInner, 0, 99} {
				allRefused(t, s, "no store", root, kind, api.ErrNil)
			}
		}
	}
}

// ErrDead stands ahead of all but ErrNil, for good.
func TestDeadStore(t *testing.T) {
	d, s := begin(t, 16, 8)
	root := tops(t, s, 3, 4, 5)
	commit(t, s, root)
	fresh := tops(t, s, 5, 6)
	kill(t, d)
	for _, revived := range []bool{false, true} {
		if revived {
			must(t, d.Crash(nil))
		}
		unchanged(t, d, s, "a dead store", func() {
			for _, root := range []uint32{0, root, fresh, 1, 16, math.MaxUint32} {
				for _, kind := range []api.NodeKind{api.NodeTop, api.NodeMap, api.NodeInner, 0, 99} {
					allRefused(t, s, "a dead store", root, kind, api.ErrDead)
				}
			}
		})
	}
}

func TestRootThatThereIsNot(t *testing.T) {
	d, s := begin(t, 16, 8)
	tops(t, s, 3, 4, 5)
	unchanged(t, d, s, "a root that there is not", func() {
		for _, root := range []uint32{16, 17, 240, 1 << 31, math.MaxUint32} {
			for _, kind := range []api.NodeKind{api.NodeTop, api.NodeMap, api.NodeInner, 0, 99} {
				allRefused(t, s, "a root that there is not", root, kind, api.ErrArg)
			}
		}
	})
	// The block of a page, and one that is free, are none's.
	unchanged(t, d, s, "a root that is no node's", func() {
		for _, root := range []uint32{1, 2, 15} {
			if _, _, e := btree.Get(s, root, 5); e != api.ErrSound {
				t.Errorf("Get in the block %d: errno %d", root, e)
			}
		}
	})
}

// Put of a kind that no tree is of is ErrArg, ahead of what is wrong with the store.
func TestPutOfAnotherKind(t *testing.T) {
	d, s := begin(t, 16, 8)
	root := tops(t, s, row(1, 10, 1)...)
	commit(t, s, root)
	spoiled := tops(t, s, 1)
	commit(t, s, spoiled)
	spoil(t, d, spoiled)
	for _, full := range []bool{false, true} {
		for m, _ := s.Room(); full && m > 0; m, _ = s.Room() {
			add(t, s, api.Node{Kind: api.NodeTop})
		}
		for _, root := range []uint32{0, root, spoiled, 16} {
			for _, kind := range []api.NodeKind{0, api.NodeInner, 4, -1, math.MaxInt, math.MinInt} {
				refusedPut(t, d, s, "Put of another kind", root, kind, 5, api.ErrArg)
			}
		}
	}
}

// A leaf of another kind is ErrSound, of a key that is there, too; without room for the way down that is told first.
func TestPutIntoATreeOfTheOtherKind(t *testing.T) {
	for _, kinds := range [][2]api.NodeKind{{api.NodeTop, api.NodeMap}, {api.NodeMap, api.NodeTop}} {
		for _, many := range []uint64{1, 6, 22} {
			d, s := begin(t, 32, 32)
			root := uint32(0)
			for key := range many {
				var e api.Errno
				root, _, _, e = btree.Put(s, root, kinds[0], key, key)
				must(t, e)
			}
			for _, key := range []uint64{0, 3, 100} {
				refusedPut(t, d, s, "the other kind, fresh", root, kinds[1], key, api.ErrSound)
			}
			commit(t, s, root)
			for _, key := range []uint64{0, 3, 100} {
				refusedPut(t, d, s, "the other kind", root, kinds[1], key, api.ErrSound)
			}
			fill(t, s, 0)
			refusedPut(t, d, s, "the other kind, without room", root, kinds[1], 3, api.ErrFull)
		}
	}
}

// fill takes free metadata blocks till so many are left.
func fill(t testing.TB, s *store.Store, left int) []uint32 {
	t.Helper()
	var l []uint32
	for m, _ := s.Room(); m > left; m-- {
		l = append(l, add(t, s, api.Node{Kind: api.NodeTop}))
	}
	return l
}

// An inner node without children is ErrSound where the way comes to it, and nowhere else.
func TestInnerNodeWithoutChildren(t *testing.T) {
	for _, committed := range []bool{false, true} {
		d, s := begin(t, 64, 8)
		bare := hang(t, s, inner(nil))
		low := hang(t, s, inner([]uint64{10, 40, 70}, leaf(10, 20, 30), inner(nil), leaf(70, 80, 90)))
		if committed {
			must(t, s.Commit(api.Super{Top: bare, Base: low}))
		}
		refusedLooks(t, d, s, "a bare root", bare, 5, api.ErrSound, api.ErrSound, api.ErrSound)
		refusedPut(t, d, s, "a bare root", bare, api.NodeTop, 5, api.ErrSound)
		refusedPut(t, d, s, "a bare root", bare, api.NodeMap, 5, api.ErrSound)
		refusedDelete(t, d, s, "a bare root", bare, 5, api.ErrSound)
		for _, key := range []uint64{40, 50, 69} {
			refusedLooks(t, d, s, "a bare child", low, key, api.ErrSound, api.ErrSound, api.ErrSound)
			refusedPut(t, d, s, "a bare child", low, api.NodeTop, key, api.ErrSound)
			refusedDelete(t, d, s, "a bare child", low, key, api.ErrSound)
		}
		// The one beside it, with which the leaf is to be joined.
		refusedDelete(t, d, s, "a bare one beside", low, 20, api.ErrSound)
		has(t, s, low, 30, small(30), true)
		has(t, s, low, 39, 0, false)
		if l, e := btree.All(s, low, 70); len(l) != 3 || e != api.OK {
			t.Errorf("All behind it: %v, errno %d", l, e)
		}
		low = top(t, s, low, 75)
		has(t, s, low, 75, small(75), true)
		low = take(t, s, low, 80)
		has(t, s, low, 80, 0, false)
	}
}

// chain is a row of inner nodes, so many, each with one child, and a leaf under them.
func chain(t testing.TB, s *store.Store, many int) uint32 {
	t.Helper()
	n := hang(t, s, leaf(5))
	for range many {
		n = add(t, s, api.Node{Kind: api.NodeInner, Keys: []uint64{5}, Vals: []uint64{uint64(n)}})
	}
	return n
}

// A node may stand 20 deep under the root, and no deeper.
func TestDeepNodes(t *testing.T) {
	for many := range 24 {
		for _, committed := range []bool{false, true} {
			d, s := begin(t, 64, 8)
			free, _ := s.Room()
			root := chain(t, s, many)
			if committed {
				commit(t, s, root)
			}
			if many > 20 {
				refusedLooks(t, d, s, "too deep", root, 5, api.ErrSound, api.ErrSound, api.ErrSound)
				refusedPut(t, d, s, "too deep", root, api.NodeTop, 5, api.ErrSound)
				refusedPut(t, d, s, "too deep", root, api.NodeTop, 6, api.ErrSound)
				refusedDelete(t, d, s, "too deep", root, 5, api.ErrSound)
				refusedDelete(t, d, s, "too deep", root, 6, api.ErrSound)
				continue
			}
			has(t, s, root, 5, small(5), true)
			if l, e := btree.All(s, root, 0); len(l) != 1 || e != api.OK {
				t.Errorf("%d: All: %v, errno %d", many, l, e)
			}
			if l, e := btree.Nodes(s, root); len(l) != many+1 || e != api.OK {
				t.Errorf("%d: Nodes: %v, errno %d", many, l, e)
			}
			root = top(t, s, root, 3)
			has(t, s, root, 3, small(3), true)
			root = take(t, s, root, 5)
			// All roots that have one child are gone.
			shaped(t, s, root, "(3)")
			root = take(t, s, root, 3)
			commit(t, s, root)
			if m, _ := s.Room(); root != 0 || m != free {
				t.Errorf("%d: the root %d, %d blocks are free; want 0, %d", many, root, m, free)
			}
		}
	}
}

// loop is an inner node that names itself in each place, and is named so often.
func loop(t testing.TB, s *store.Store, places, named int) uint32 {
	t.Helper()
	x := api.Node{Kind: api.NodeInner}
	n := add(t, s, x)
	for i := range places {
		x.Keys, x.Vals = append(x.Keys, uint64(i)), append(x.Vals, uint64(n))
	}
	must(t, s.Put(n, x))
	for range named - 1 {
		must(t, s.Hold(n))
	}
	return n
}

func TestNodeThatNamesItself(t *testing.T) {
	for places := 1; places <= 6; places++ {
		for _, named := range []int{1, places + 1} {
			d, s := begin(t, 64, 8)
			n := loop(t, s, places, named)
			refusedLooks(t, d, s, "a loop", n, 3, api.ErrSound, api.ErrSound, api.ErrSound)
			refusedPut(t, d, s, "a loop", n, api.NodeTop, 3, api.ErrSound)
			refusedDelete(t, d, s, "a loop", n, 3, api.ErrSound)
			commit(t, s, n)
			refusedLooks(t, d, s, "a loop, committed", n, 3, api.ErrSound, api.ErrSound, api.ErrSound)
			refusedDelete(t, d, s, "a loop, committed", n, 3, api.ErrSound)
			want := api.ErrSound
			if named == 1 {
				// Behind its shadow nobody names it any more, so that it has none itself.
				want = api.ErrState
			}
			refusedPut(t, d, s, "a loop, committed", n, api.NodeTop, 3, want)
		}
	}
	// Two that name one another, under a root.
	d, s := begin(t, 64, 8)
	a := add(t, s, api.Node{Kind: api.NodeInner})
	b := add(t, s, api.Node{Kind: api.NodeInner, Keys: []uint64{5}, Vals: []uint64{uint64(a)}})
	must(t, s.Put(a, api.Node{Kind: api.NodeInner, Keys: []uint64{5}, Vals: []uint64{uint64(b)}}))
	root := add(t, s, api.Node{Kind: api.NodeInner, Keys: []uint64{0, 5}, Vals: []uint64{uint64(hang(t, s, leaf(1, 2, 3))), uint64(a)}})
	refusedLooks(t, d, s, "two that name one another", root, 9, api.ErrSound, api.ErrSound, api.ErrSound)
	refusedPut(t, d, s, "two that name one another", root, api.NodeTop, 9, api.ErrSound)
	refusedDelete(t, d, s, "two that name one another", root, 9, api.ErrSound)
	has(t, s, root, 2, small(2), true)
	root = top(t, s, root, 4)
	has(t, s, root, 4, small(4), true)
}

// Twenty nodes that name the next one in each place are more ways down than can be gone: each call ends.
func TestNodesThatStandAgainAndAgain(t *testing.T) {
	for _, under := range []limb{leaf(), leaf(5), leaf(1, 2, 3)} {
		d, s := begin(t, 64, 8)
		n := hang(t, s, under)
		for range 20 {
			x := api.Node{Kind: api.NodeInner}
			for i := range uint64(6) {
				x.Keys, x.Vals = append(x.Keys, i), append(x.Vals, uint64(n))
			}
			n = add(t, s, x)
		}
		unchanged(t, d, s, "again and again", func() {
			if l, e := btree.All(s, n, 0); l != nil || e != api.ErrSound {
				t.Errorf("All: %v, errno %d", l, e)
			}
			if l, e := btree.Nodes(s, n); l != nil || e != api.ErrSound {
				t.Errorf("Nodes: %v, errno %d", l, e)
			}
			should(t, "Check", btree.Check(s, n, api.NodeTop), api.ErrSound)
			if _, is, e := btree.Get(s, n, 3); is != (len(under.keys) == 3) || e != api.OK {
				t.Errorf("Get: %v, errno %d", is, e)
			}
		})
		btree.Put(s, n, api.NodeTop, 3, 3)
		btree.Delete(s, n, 3)
	}
	// One that stands twice in a small tree is told twice.
	_, s := begin(t, 16, 8)
	under := uint64(hang(t, s, leaf(1, 2, 3)))
	n := add(t, s, api.Node{Kind: api.NodeInner, Keys: []uint64{1, 2}, Vals: []uint64{under, under}})
	if l, e := btree.Nodes(s, n); !slices.Equal(l, []uint32{n, uint32(under), uint32(under)}) || e != api.OK {
		t.Errorf("Nodes: %v, errno %d", l, e)
	}
}

// committedTree is a committed tree of three levels, and its nodes.
func committedTree(t testing.TB, meta int) (*disk.Disk, *store.Store, uint32, []uint32) {
	t.Helper()
	d, s := begin(t, meta, 8)
	root := hang(t, s, joined(
		joined(leaf(10, 20, 30), leaf(40, 50, 60), leaf(70, 80, 90)),
		joined(leaf(100, 110, 120), leaf(130, 140, 150), leaf(160, 170, 180))))
	commit(t, s, root)
	return d, s, root, nodes(t, s, root)
}

// A node's block that is none's of its number is ErrSound for all that reads it, and for nothing else.
func TestNodeThatIsNoNode(t *testing.T) {
	for i := range 9 {
		d, s, root, l := committedTree(t, 48)
		spoil(t, d, l[i])
		what := "a block that is none's"
		// Which leaves' ways come to it.
		from, to := []int{0, 0, 0, 1, 2, 3, 3, 4, 5}[i], []int{5, 2, 0, 1, 2, 5, 3, 4, 5}[i]
		for leaf := range 6 {
			key := uint64(10 + 30*leaf)
			if leaf >= from && leaf <= to {
				refusedLooks(t, d, s, what, root, key, api.ErrSound, api.ErrSound, api.ErrSound)
				refusedPut(t, d, s, what, root, api.NodeTop, key+1, api.ErrSound)
				refusedDelete(t, d, s, what, root, key, api.ErrSound)
				refusedDelete(t, d, s, what, root, key+1, api.ErrSound)
				continue
			}
			has(t, s, root, key, small(key), true)
			has(t, s, root, key+1, 0, false)
			// Beside the leaf, or beside the inner node above it.
			beside := leaf + 1
			if leaf%3 == 2 {
				beside = leaf - 1
			}
			if i == []int{2, 3, 4, 6, 7, 8}[beside] || i == 5 && leaf < 3 || i == 1 && leaf >= 3 {
				refusedDelete(t, d, s, "a block beside that is none's", root, key, api.ErrSound)
				continue
			}
			r := top(t, s, root, key+1)
			has(t, s, r, key+1, small(key+1), true)
			s.Abort()
			take(t, s, root, key)
			s.Abort()
		}
	}
	// What stands ahead of a key isn't read for what stands from it on.
	d, s, root, l := committedTree(t, 48)
	spoil(t, d, l[1])
	if l, e := btree.All(s, root, 100); len(l) != 9 || e != api.OK {
		t.Errorf("All: %v, errno %d", l, e)
	}
	if l, e := btree.All(s, root, 99); l != nil || e != api.ErrSound {
		t.Errorf("All: %v, errno %d", l, e)
	}
}

// A child that there is not is ErrArg, as the store has it: numbers of no block, and of none that could be, among them.
func TestChildThatThereIsNot(t *testing.T) {
	for _, no := range []uint64{0, 16, 240, 1 << 31, math.MaxUint32, 1<<32 + 5, 5 << 32, 1 << 63, most} {
		d, s := begin(t, 16, 8)
		a, b := uint64(hang(t, s, leaf(10, 20, 30))), uint64(hang(t, s, leaf(70, 80, 90)))
		for range 3 {
			add(t, s, api.Node{Kind: api.NodeTop, Keys: []uint64{50}, Vals: []uint64{1}})
		}
		root := add(t, s, api.Node{Kind: api.NodeInner, Keys: []uint64{10, 40, 70}, Vals: []uint64{a, no, b}})
		refusedLooks(t, d, s, "a child that there is not", root, 50, api.ErrArg, api.ErrArg, api.ErrArg)
		refusedPut(t, d, s, "a child that there is not", root, api.NodeTop, 50, api.ErrArg)
		refusedDelete(t, d, s, "a child that there is not", root, 50, api.ErrArg)
		refusedDelete(t, d, s, "one beside that there is not", root, 20, api.ErrArg)
		has(t, s, root, 20, small(20), true)
		// Shared, the root is no node to be shadowed.
		must(t, s.Hold(root))
		want := api.ErrArg
		if no == 0 {
			want = api.OK // It names nothing.
		}
		if want != api.OK {
			refusedPut(t, d, s, "a shared root that names what there is not", root, api.NodeTop, 20, want)
			refusedDelete(t, d, s, "a shared root that names what there is not", root, 80, want)
		} else {
			top(t, s, root, 20)
		}
	}
}

// A node that is named by none can't be shadowed; it can be looked at.
func TestNodeThatIsNamedByNone(t *testing.T) {
	d, s, root, l := committedTree(t, 48)
	must(t, s.Drop(root))
	unchanged(t, d, s, "a root that is named by none", func() {
		has(t, s, root, 20, small(20), true)
		must(t, btree.Check(s, root, api.NodeTop))
		if r, v, is, e := btree.Delete(s, root, 25); r != root || v != 0 || is || e != api.OK {
			t.Errorf("Delete of what is not there: %d, %d, %v, errno %d", r, v, is, e)
		}
	})
	refusedPut(t, d, s, "a root that is named by none", root, api.NodeTop, 20, api.ErrState)
	refusedDelete(t, d, s, "a root that is named by none", root, 20, api.ErrState)
	// ErrState stands ahead of a block that is none's, where one is to be shadowed.
	spoil(t, d, root)
	refusedPut(t, d, s, "a root that is named by none, and no node's", root, api.NodeTop, 20, api.ErrState)
	// A child that is, two levels down, and what is to be joined with one.
	d, s, root, l = committedTree(t, 48)
	must(t, s.Drop(l[7]))
	refusedPut(t, d, s, "a leaf that is named by none", root, api.NodeTop, 135, api.ErrState)
	refusedDelete(t, d, s, "a leaf that is named by none", root, 140, api.ErrState)
	refusedDelete(t, d, s, "one beside that is named by none", root, 110, api.ErrState)
	refusedDelete(t, d, s, "one beside that is named by none", root, 180, api.ErrState)
	top(t, s, root, 115)
}

// need is how many blocks must be free for something to be done: with fewer it is ErrFull, and nothing is changed; with just as many it is done.
func need(t testing.TB, d *disk.Disk, s *store.Store, what string, do func() (uint32, uint64, bool, api.Errno)) int {
	t.Helper()
	taken := fill(t, s, 0)
	for i := 0; ; i++ {
		var root uint32
		var e api.Errno
		was, before := looksOf(s), d.Copy()
		root, v, is, e := do()
		if e == api.OK {
			if m, _ := s.Room(); m < 0 || root == 0 {
				t.Errorf("%s: the root %d", what, root)
			}
			return i
		}
		if root != 0 || v != 0 || is || e != api.ErrFull {
			t.Fatalf("%s: with %d free blocks %d, %d, %v, errno %d", what, i, root, v, is, e)
		}
		sameLooks(t, what, s, was)
		if !d.Same(before) {
			t.Errorf("%s: the disk is changed", what)
		}
		if len(taken) == 0 {
			t.Fatalf("%s: no room is enough", what)
		}
		must(t, s.Free(taken[0]))
		taken = taken[1:]
	}
}

func TestWithoutRoom(t *testing.T) {
	putting := func(key uint64) func(s *store.Store, root uint32) (uint32, uint64, bool, api.Errno) {
		return func(s *store.Store, root uint32) (uint32, uint64, bool, api.Errno) {
			return btree.Put(s, root, api.NodeTop, key, 7)
		}
	}
	deleting := func(key uint64) func(s *store.Store, root uint32) (uint32, uint64, bool, api.Errno) {
		return func(s *store.Store, root uint32) (uint32, uint64, bool, api.Errno) {
			return btree.Delete(s, root, key)
		}
	}
	six := leaf(61, 62, 63, 64, 65, 66)
	full := joined(leaf(1, 2, 3), leaf(11, 12, 13), leaf(21, 22, 23), leaf(31, 32, 33), leaf(41, 42, 43), six)
	three := joined(joined(leaf(10, 20, 30), leaf(40, 50, 60), leaf(70, 80, 90)), joined(leaf(100, 110, 120), leaf(130, 140, 150), leaf(160, 170, 180)))
	three4 := joined(joined(leaf(10, 20, 30), leaf(40, 50, 60), leaf(70, 80, 90)), joined(leaf(100, 110, 120, 125), leaf(130, 140, 150), leaf(160, 170, 180), leaf(190, 200, 210)))
	for _, x := range []struct {
		what string
		tree limb
		do   func(s *store.Store, root uint32) (uint32, uint64, bool, api.Errno)
		// How many blocks are needed: where the nodes are fresh, where they were committed, and where the root is held besides.
		fresh, elder, held int
	}{
		{"Put into a leaf", leaf(5), putting(6), 0, 1, 1},
		{"Put again", leaf(5), putting(5), 0, 1, 1},
		{"Put that splits the root", six, putting(67), 2, 3, 3},
		{"Put under a root", joined(leaf(1, 2, 3), six), putting(4), 0, 2, 2},
		{"Put that splits a leaf", joined(leaf(1, 2, 3), six), putting(67), 1, 3, 3},
		{"Put that splits all", full, putting(70), 3, 5, 5},
		{"Put again into a full one", full, putting(61), 0, 2, 2},
		{"Put three deep", three, putting(5), 0, 3, 3},
		{"Delete in a leaf", leaf(5, 6), deleting(6), 0, 1, 1},
		{"Delete under a root", joined(leaf(1, 2, 3), six), deleting(61), 0, 2, 2},
		{"Delete that joins", joined(leaf(1, 2, 3), leaf(11, 12, 13), leaf(21, 22, 23)), deleting(1), 0, 3, 3},
		{"Delete that gives half", joined(leaf(1, 2, 3), six), deleting(1), 0, 3, 3},
		// The one that is gone makes room for the one beside the node above.
		{"Delete that joins twice", three, deleting(10), 0, 4, 4},
		{"Delete that joins, and gives half", three4, deleting(10), 0, 4, 4},
		{"Delete that joins at the end", three, deleting(180), 0, 4, 4},
	} {
		for i, want := range []int{x.fresh, x.elder, x.held} {
			d, s := begin(t, 64, 8)
			root := hang(t, s, x.tree)
			if i > 0 {
				commit(t, s, root)
			}
			if i > 1 {
				must(t, s.Hold(root))
			}
			if n := need(t, d, s, x.what, func() (uint32, uint64, bool, api.Errno) { return x.do(s, root) }); n != want {
				t.Errorf("%s (%d): %d blocks are needed; want %d", x.what, i, n, want)
			}
		}
	}
	// The first key of all.
	d, s := begin(t, 16, 8)
	if n := need(t, d, s, "the first key", func() (uint32, uint64, bool, api.Errno) { return btree.Put(s, 0, api.NodeMap, 1, 1) }); n != 1 {
		t.Errorf("the first key: %d blocks are needed", n)
	}
	// A fresh node that is held needs a shadow, and so does all that stands under it.
	d, s = begin(t, 64, 8)
	root := hang(t, s, three)
	must(t, s.Hold(root))
	if n := need(t, d, s, "fresh, and held", func() (uint32, uint64, bool, api.Errno) { return btree.Put(s, root, api.NodeTop, 5, 1) }); n != 3 {
		t.Errorf("fresh, and held: %d blocks are needed", n)
	}
	// A fresh one under a committed one, and one that is held between.
	d, s, root, l := committedTree(t, 64)
	root = top(t, s, root, 15)
	l = nodes(t, s, root)
	must(t, s.Hold(l[2]))
	if n := need(t, d, s, "a leaf that is held", func() (uint32, uint64, bool, api.Errno) { return btree.Put(s, root, api.NodeTop, 16, 1) }); n != 1 {
		t.Errorf("a leaf that is held: %d blocks are needed", n)
	}
}

// A count of 65535 has no room for one more: of what a shared node names, at whatever place, and however deep.
func TestCountWithoutRoom(t *testing.T) {
	for _, x := range []struct {
		what string
		full int // the node that is named as often as can be
		key  uint64
		want api.Errno
	}{
		{"on the way", 1, 20, api.ErrFull},
		{"beside the way", 5, 20, api.ErrFull},
		{"two deep, on the way", 3, 50, api.ErrFull},
		{"two deep, beside the way", 4, 20, api.ErrFull},
		{"elsewhere", 7, 20, api.OK},
	} {
		d, s, root, l := committedTree(t, 64)
		must(t, s.Hold(root))
		for s.Count(l[x.full]) < math.MaxUint16 {
			must(t, s.Hold(l[x.full]))
		}
		if x.want != api.OK {
			refusedPut(t, d, s, x.what, root, api.NodeTop, x.key, x.want)
			refusedDelete(t, d, s, x.what, root, x.key, x.want)
			continue
		}
		top(t, s, root, x.key)
	}
	// A data block, under a map that is shared.
	d, s := begin(t, 32, 8)
	b, e := s.NewData(api.Block{1})
	must(t, e)
	root, _, _, e := btree.Put(s, 0, api.NodeMap, 3, uint64(b))
	must(t, e)
	must(t, s.Hold(root))
	r, _, _, e := btree.Put(s, root, api.NodeMap, 4, uint64(b)) // Two maps name it now; its name was one, so it lacks one.
	must(t, e)
	if s.DataCount(b) != 2 || r == root {
		t.Errorf("%d, root %d", s.DataCount(b), r)
	}
	// Values that are named by none, and of blocks that there are not, can't be named once more.
	for val, want := range map[uint64]api.Errno{2: api.ErrState, 7: api.ErrState, 8: api.ErrArg, 1 << 32: api.ErrArg, most: api.ErrArg} {
		root, _, _, e := btree.Put(s, 0, api.NodeMap, 3, val)
		must(t, e)
		must(t, s.Hold(root))
		refusedPut(t, d, s, "a map that is shared", root, api.NodeMap, 4, want)
		refusedPut(t, d, s, "a map that is shared", root, api.NodeMap, 3, want)
		refusedDelete(t, d, s, "a map that is shared", root, 3, want)
		has(t, s, root, 3, val, true)
		must(t, s.Drop(root))
		root, _, _, e = btree.Put(s, root, api.NodeMap, 4, val)
		must(t, e)
		has(t, s, root, 4, val, true)
	}
	for val, want := range map[uint64]api.Errno{20 << 32: api.ErrState, 32 << 32: api.ErrArg, most: api.ErrArg, 1<<32 - 1: api.OK} {
		root, _, _, e := btree.Put(s, 0, api.NodeTop, 3, val)
		must(t, e)
		must(t, s.Hold(root))
		if want == api.OK {
			top(t, s, root, 4)
			continue
		}
		refusedPut(t, d, s, "a top tree that is shared", root, api.NodeTop, 4, want)
		refusedDelete(t, d, s, "a top tree that is shared", root, 3, want)
	}
}

// Of several errors the one is told that comes first.
func TestWhichError(t *testing.T) {
	// What the store tells stands ahead of what is wrong with the tree: ErrArg ahead of ErrSound.
	d, s := begin(t, 32, 8)
	one := uint64(hang(t, s, leaf(10)))
	bare := uint64(hang(t, s, inner(nil)))
	root := add(t, s, api.Node{Kind: api.NodeInner, Keys: []uint64{10, 20, 30}, Vals: []uint64{bare, one, 99}})
	refusedLooks(t, d, s, "without children, and what there is not", root, 10, api.ErrSound, api.ErrArg, api.ErrArg)
	loops := loop(t, s, 2, 1)
	must(t, s.Put(loops, api.Node{Kind: api.NodeInner, Keys: []uint64{1, 2}, Vals: []uint64{uint64(loops), 99}}))
	refusedLooks(t, d, s, "too deep, and what there is not", loops, 1, api.ErrSound, api.ErrArg, api.ErrArg)
	// A lack of room comes behind all else that the store tells, and ahead of what is wrong with the tree.
	d, s, root, l := committedTree(t, 64)
	fill(t, s, 0)
	refusedPut(t, d, s, "without room", root, api.NodeTop, 20, api.ErrFull)
	spoil(t, d, l[2])
	refusedPut(t, d, s, "no node's, and without room", root, api.NodeTop, 20, api.ErrSound)
	refusedDelete(t, d, s, "no node's, and without room", root, 20, api.ErrSound)
	refusedPut(t, d, s, "another one no node's, and without room", root, api.NodeTop, 50, api.ErrFull)
	d, s, root, l = committedTree(t, 64)
	must(t, s.Drop(l[2]))
	fill(t, s, 0)
	refusedPut(t, d, s, "named by none, and without room", root, api.NodeTop, 20, api.ErrState)
	refusedDelete(t, d, s, "named by none, and without room", root, 20, api.ErrState)
	refusedDelete(t, d, s, "one beside is named by none, and without room", root, 90, api.ErrFull)
	d, s = begin(t, 64, 8)
	root = hang(t, s, inner([]uint64{1, 10}, leaf(1, 2, 3), inner(nil)))
	commit(t, s, root)
	fill(t, s, 0)
	refusedPut(t, d, s, "without children, and without room", root, api.NodeTop, 11, api.ErrFull)
	refusedDelete(t, d, s, "without children, and without room", root, 11, api.ErrSound)
}

// Trees that are not sound can't be joined in each way: what can't be is refused.
func TestJoinOfWhatIsNotSound(t *testing.T) {
	for _, x := range []struct {
		what string
		tree limb
		want api.Errno
	}{
		{"a leaf and an inner node", inner([]uint64{1, 10}, leaf(1, 2, 3), joined(leaf(10, 11, 12), leaf(13, 14, 15))), api.ErrSound},
		{"leaves of two kinds", inner([]uint64{1, 10}, leaf(1, 2, 3), limb{kind: api.NodeMap, keys: []uint64{10, 11, 12}}), api.ErrSound},
		{"keys that don't rise, joined", inner([]uint64{1, 10}, leaf(1, 2, 3), leaf(3, 4, 5)), api.ErrArg},
		{"keys that don't rise, in halves", inner([]uint64{1, 10}, leaf(1, 2, 9), leaf(3, 4, 5, 6, 7)), api.ErrArg},
	} {
		for _, committed := range []bool{false, true} {
			d, s := begin(t, 32, 8)
			root := hang(t, s, x.tree)
			if committed {
				commit(t, s, root)
			}
			refusedDelete(t, d, s, x.what, root, 2, x.want)
		}
	}
	// A node that stands on both places, and is counted once.
	d, s := begin(t, 32, 8)
	n := uint64(hang(t, s, leaf(1)))
	root := add(t, s, api.Node{Kind: api.NodeInner, Keys: []uint64{1, 2}, Vals: []uint64{n, n}})
	refusedDelete(t, d, s, "joined with itself", root, 1, api.ErrSound)
	// A node that stands beside its own child, with which it would be joined.
	for _, more := range [][]limb{nil, {leaf(11, 12, 13)}} {
		d, s := begin(t, 32, 8)
		under := append([]limb{inner([]uint64{0}, leaf(0, 1, 2, 3)), leaf()}, more...)
		root := hang(t, s, inner([]uint64{7, 9, 11}[:len(under)], under...))
		x, e := s.Node(root)
		must(t, e)
		x.Vals[1] = uint64(root)
		must(t, s.Put(root, x))
		refusedDelete(t, d, s, "joined with what is above it", root, 1, api.ErrState)
	}
	// One that is named by the one beside it, too: it can't be let go.
	d, s = begin(t, 32, 8)
	r := uint64(hang(t, s, inner([]uint64{7}, leaf(7, 8, 9, 10))))
	l := add(t, s, api.Node{Kind: api.NodeInner, Keys: []uint64{0, 3}, Vals: []uint64{uint64(hang(t, s, leaf(0, 1, 2))), r}})
	must(t, s.Hold(l))
	root = add(t, s, api.Node{Kind: api.NodeInner, Keys: []uint64{0, 7}, Vals: []uint64{uint64(l), r}})
	refusedDelete(t, d, s, "joined with what names it", root, 8, api.ErrState)
	// A child's first key below those of the child ahead: it can't be the inner node's.
	for _, committed := range []bool{false, true} {
		d, s := begin(t, 32, 8)
		root := hang(t, s, inner([]uint64{5, 10, 20}, leaf(5, 6, 7), leaf(3, 11, 12, 13), leaf(20, 21, 22)))
		if committed {
			commit(t, s, root)
		}
		refusedPut(t, d, s, "keys that don't rise above", root, api.NodeTop, 16, api.ErrArg)
		refusedDelete(t, d, s, "keys that don't rise above", root, 12, api.ErrArg)
	}
}
