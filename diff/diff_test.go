package diff_test

import (
	"maps"
	"slices"
	"testing"

	"voile/api"
	"voile/btree"
	"voile/diff"
)

// P10.1

// The example of the chapter, of a map of data blocks.
func TestExample(t *testing.T) {
	d, s := begin(t, 32, 16)
	data := func(first byte) uint64 {
		n, e := s.NewData(api.Block{first})
		must(t, e)
		return uint64(n)
	}
	put := func(root uint32, key, val uint64) uint32 {
		root, _, _, e := btree.Put(s, root, api.NodeMap, key, val)
		must(t, e)
		return root
	}
	data(0) // So that a is not 0.
	a, b := data('a'), data('b')
	old := hold(t, s, put(put(0, 1, a), 2, b))
	c, x := data('c'), data('d')
	root := put(put(old, 2, c), 3, x)
	want := []api.Change{{Key: 2, Old: b, New: c, Had: true, Has: true}, {Key: 3, New: x, Has: true}}
	for range 2 {
		unchanged(t, d, s, "the example", func() {
			told(t, s, old, root, want)
			told(t, s, root, old, []api.Change{{Key: 2, Old: c, New: b, Had: true, Has: true}, {Key: 3, Old: x, Had: true}})
			differs(t, s, old, root, list{1: a, 2: b}, list{1: a, 2: c, 3: x})
		})
		commit(t, s, old, root)
	}
}

func TestEmptyTrees(t *testing.T) {
	d, s := begin(t, 64, 8)
	unchanged(t, d, s, "two empty trees", func() { differs(t, s, 0, 0, nil, nil) })
	for _, many := range []uint64{1, 6, 7, 22, 100} {
		keys := row(1, many, 1)
		root := tops(t, s, keys...)
		unchanged(t, d, s, "an empty tree beside one with keys", func() {
			differs(t, s, 0, root, nil, listed(keys...))
			differs(t, s, root, 0, listed(keys...), nil)
			differs(t, s, root, root, listed(keys...), listed(keys...))
			all := nodes(t, s, root)
			slices.Sort(all)
			only(t, s, 0, root, nil, all)
			only(t, s, root, 0, all, nil)
			only(t, s, root, root, nil, nil)
		})
		must(t, s.Drop(root))
	}
}

// P10.3: of 0 and a tree it tells all the tree's keys, as the tree does.
func TestAllKeys(t *testing.T) {
	_, s := begin(t, 64, 8)
	root := with(t, s, tops(t, s, row(10, 500, 10)...), 0, 0)
	root = with(t, s, root, most, 0)
	l, e := diff.Of(s, 0, root)
	must(t, e)
	pairs, e := btree.All(s, root, 0)
	must(t, e)
	if len(l) != 52 || len(pairs) != 52 {
		t.Fatalf("%d keys, and %d", len(l), len(pairs))
	}
	for i, p := range pairs {
		if want := (api.Change{Key: p.Key, New: p.Val, Has: true}); l[i] != want {
			t.Errorf("%v; want %v", l[i], want)
		}
	}
}

// Trees of one leaf.
func TestLeaves(t *testing.T) {
	lists := []list{
		{5: 1}, {5: 2}, {5: 0}, {4: 1}, {6: 1}, {4: 1, 6: 1}, {4: 1, 5: 1, 6: 1}, {4: 1, 5: 0, 6: 1},
		{0: 1}, {0: 0}, {most: 1}, {most: 0}, {0: 1, most: 1}, {0: 0, 5: 1, most: 2}, {0: most % (1 << 32), 1: 1, 2: 2, 3: 3, 4: 4, most: 0},
	}
	d, s := begin(t, 64, 8)
	var roots []uint32
	for _, l := range lists {
		root := uint32(0)
		for _, k := range slices.Sorted(maps.Keys(l)) {
			root = with(t, s, root, k, l[k])
		}
		roots = append(roots, root)
	}
	unchanged(t, d, s, "leaves", func() {
		for i, a := range lists {
			for j, b := range lists {
				differs(t, s, roots[i], roots[j], a, b)
			}
		}
	})
}

// A tree that is held, and what became of it by one Put, of a key that is there or not: the first of all, the last, one between; of trees of one level up to four.
func TestOnePut(t *testing.T) {
	for _, many := range []uint64{1, 5, 6, 7, 21, 22, 60, 130} {
		d, s := begin(t, 120, 8)
		keys := row(10, 10*many, 10)
		old := tops(t, s, keys...)
		commit(t, s, 0, old)
		had := listed(keys...)
		for _, key := range append(slices.Clone(keys), 0, 5, 15, 10*many-5, 10*many+5, most) {
			for _, val := range []uint64{small(key), 0, 2000} {
				root := with(t, s, hold(t, s, old), key, val)
				has := maps.Clone(had)
				has[key] = val
				unchanged(t, d, s, "one Put", func() { differs(t, s, old, root, had, has) })
				must(t, s.Drop(root))
				commit(t, s, 0, old)
			}
		}
	}
}

// Likewise by one Delete: to the tree that has no keys, too.
func TestOneDelete(t *testing.T) {
	for _, many := range []uint64{1, 2, 6, 7, 8, 22, 23, 60, 130} {
		d, s := begin(t, 120, 8)
		keys := row(0, 10*(many-1), 10)
		old := tops(t, s, keys...)
		commit(t, s, 0, old)
		had := listed(keys...)
		for _, key := range keys {
			root := without(t, s, hold(t, s, old), key)
			has := maps.Clone(had)
			delete(has, key)
			unchanged(t, d, s, "one Delete", func() { differs(t, s, old, root, had, has) })
			must(t, s.Drop(root))
			commit(t, s, 0, old)
		}
	}
}

// What is deleted, and put again with its value, does not differ, though its nodes do.
func TestPutAgain(t *testing.T) {
	_, s := begin(t, 120, 8)
	keys := row(1, 60, 1)
	old := tops(t, s, keys...)
	root := hold(t, s, old)
	for _, k := range []uint64{1, 30, 60} {
		root = with(t, s, without(t, s, root, k), k, small(k))
	}
	differs(t, s, old, root, listed(keys...), listed(keys...))
	if a, b, e := diff.Only(s, old, root); len(a) < 3 || len(b) < 3 || e != api.OK {
		t.Errorf("Only: %v, %v, errno %d", a, b, e)
	}
}

// By many: keys on one side of those that are there, so that what stood high stands deeper, under more levels; and back again.
func TestMoreLevels(t *testing.T) {
	for many, far := range map[uint64]int{6: 0, 20: 2, 22: 1, 50: 1} {
		for turn := range 4 {
			d, s := begin(t, 240, 8)
			keys, has := row(1000, 1000+many-1, 1), list{}
			old := tops(t, s, keys...)
			if turn < 2 {
				commit(t, s, 0, old)
			}
			beside := row(2000, 2149, 1)
			if turn%2 == 0 {
				beside = row(0, 149, 1)
				slices.Reverse(beside)
			}
			root, had := hold(t, s, old), listed(keys...)
			maps.Copy(has, had)
			was, above := levels(t, s, old), 0
			for i, key := range beside {
				root = with(t, s, root, key, small(key))
				has[key] = small(key)
				if i%10 == 9 {
					unchanged(t, d, s, "more levels", func() { differs(t, s, old, root, had, has) })
				}
				if l := nodes(t, s, old); len(apart(l, nodes(t, s, root))) < len(l) {
					above = max(above, levels(t, s, root)-was)
				}
			}
			if above != far {
				t.Errorf("%d keys: nodes are shared by trees that are %d levels apart; want %d", many, above, far)
			}
			for i, key := range beside {
				root = without(t, s, root, key)
				delete(has, key)
				if i%10 == 9 {
					differs(t, s, old, root, had, has)
				}
			}
		}
	}
}

// Two trees that were made apart have no node in common, whatever their keys.
func TestTreesMadeApart(t *testing.T) {
	rows := [][]uint64{
		row(100, 100, 1), row(100, 105, 1), row(100, 121, 1), row(100, 190, 1),
		row(101, 190, 2), row(0, 9, 1), row(0, 99, 1), row(191, 300, 1), {0, most}, {99, 145, 191},
	}
	d, s := begin(t, 240, 8)
	for _, a := range rows {
		for _, b := range rows {
			back := slices.Clone(b)
			slices.Reverse(back)
			old, root := tops(t, s, a...), tops(t, s, back...)
			unchanged(t, d, s, "made apart", func() {
				differs(t, s, old, root, listed(a...), listed(b...))
				l, r := nodes(t, s, old), nodes(t, s, root)
				slices.Sort(l)
				slices.Sort(r)
				only(t, s, old, root, l, r)
			})
			must(t, s.Drop(old))
			must(t, s.Drop(root))
		}
	}
}

// Trees by hand: an inner node's key may lie below the first key under it, and a node that both trees have may stand under other keys, and on other levels, in each.
func TestTreesByHand(t *testing.T) {
	d, s := begin(t, 64, 8)
	low, mid, high := leaf(t, s, 10, 20, 30), leaf(t, s, 40, 50, 60), leaf(t, s, 70, 80, 90)
	more := leaf(t, s, 100, 110, 120)
	own := leaf(t, s, 100, 110, 130)
	left := inner(t, s, []uint64{5, 35, 65}, low, mid, high)
	right := inner(t, s, []uint64{95, 125, 155}, more, leaf(t, s, 125, 130, 140), leaf(t, s, 160, 170, 180))
	trees := map[uint32]list{
		0: {}, low: listed(10, 20, 30), mid: listed(40, 50, 60), own: listed(100, 110, 130),
		left:                                     listed(10, 20, 30, 40, 50, 60, 70, 80, 90),
		right:                                    listed(100, 110, 120, 125, 130, 140, 160, 170, 180),
		inner(t, s, []uint64{0, 31}, low, mid):   listed(10, 20, 30, 40, 50, 60),
		inner(t, s, []uint64{40, 70}, mid, high): listed(40, 50, 60, 70, 80, 90),
		inner(t, s, []uint64{10, 70}, low, high): listed(10, 20, 30, 70, 80, 90),
		inner(t, s, []uint64{9, 33, 61, 91}, low, mid, high, more):  listed(10, 20, 30, 40, 50, 60, 70, 80, 90, 100, 110, 120),
		inner(t, s, []uint64{10, 40, 70, 100}, low, mid, high, own): listed(10, 20, 30, 40, 50, 60, 70, 80, 90, 100, 110, 130),
		inner(t, s, []uint64{0, 92}, left, right):                   listed(10, 20, 30, 40, 50, 60, 70, 80, 90, 100, 110, 120, 125, 130, 140, 160, 170, 180),
	}
	unchanged(t, d, s, "by hand", func() {
		for a, had := range trees {
			for b, has := range trees {
				differs(t, s, a, b, had, has)
			}
		}
	})
}

// Walk may be left anywhere, and gone through again.
func TestWalk(t *testing.T) {
	_, s := begin(t, 120, 8)
	old := tops(t, s, row(1, 50, 1)...)
	root := hold(t, s, old)
	for _, k := range []uint64{1, 20, 50} {
		root = without(t, s, root, k)
	}
	for _, k := range []uint64{0, 30, 60, 61} {
		root = with(t, s, root, k, 3000)
	}
	want, e := diff.Of(s, old, root)
	must(t, e)
	if len(want) != 7 {
		t.Fatalf("Of: %v", want)
	}
	walk := diff.Walk(s, old, root)
	for leave := range len(want) + 2 {
		var l []api.Change
		for c := range walk {
			if len(l) == leave {
				break
			}
			l = append(l, c)
		}
		if !slices.Equal(l, want[:min(leave, len(want))]) {
			t.Errorf("left behind %d: %v", leave, l)
		}
		for range 2 {
			if l := slices.Collect(walk); !slices.Equal(l, want) {
				t.Errorf("gone through again: %v; want %v", l, want)
			}
		}
	}
	// One walk within another.
	for c := range walk {
		if l := slices.Collect(walk); !slices.Equal(l, want) {
			t.Errorf("at %v: %v; want %v", c, l, want)
		}
	}
	// A walk over nothing can be gone through, too.
	for _, walk := range []func(func(api.Change) bool){diff.Walk(s, old, old), diff.Walk(s, 0, 0), diff.Walk(s, 200, old), diff.Walk(nil, 0, 0)} {
		for range 2 {
			for c := range walk {
				t.Errorf("goes over %v", c)
			}
		}
	}
}

// What is gone over is the difference that was asked for, whatever becomes of the trees.
func TestWalkBesideChanges(t *testing.T) {
	d, s := begin(t, 120, 8)
	old := tops(t, s, row(1, 50, 1)...)
	root := with(t, s, without(t, s, hold(t, s, old), 7), 60, 1)
	want := []api.Change{{Key: 7, Old: small(7), Had: true}, {Key: 60, New: 1, Has: true}}
	walk := diff.Walk(s, old, root)
	var l []api.Change
	for c := range walk {
		l = append(l, c)
		root = with(t, s, root, 100+c.Key, 1)
		root = without(t, s, root, 20+c.Key%20)
	}
	if !slices.Equal(l, want) {
		t.Errorf("%v; want %v", l, want)
	}
	must(t, s.Drop(root))
	must(t, s.Drop(old))
	kill(t, d)
	if l := slices.Collect(walk); !slices.Equal(l, want) {
		t.Errorf("%v; want %v", l, want)
	}
}

// P10.2: rising, though the trees have them otherwise.
func TestOnly(t *testing.T) {
	d, s := begin(t, 120, 8)
	old := tops(t, s, row(1, 60, 1)...)
	commit(t, s, 0, old)
	root := hold(t, s, old)
	for _, k := range []uint64{60, 1, 30} {
		root = with(t, s, root, k, 5000)
	}
	unchanged(t, d, s, "Only", func() {
		a, b := nodes(t, s, old), nodes(t, s, root)
		l, r := apart(a, b), apart(b, a)
		if len(l) == 0 || len(l) == len(a) || len(l) != len(r) || slices.IsSorted(b) {
			t.Fatalf("%v and %v share too little, or too much", a, b)
		}
		only(t, s, old, root, l, r)
		only(t, s, root, old, r, l)
	})
}

// What is told is the caller's.
func TestToldIsTheCallers(t *testing.T) {
	d, s := begin(t, 120, 8)
	old := tops(t, s, row(1, 30, 1)...)
	root := with(t, s, without(t, s, hold(t, s, old), 7), 60, 1)
	want := []api.Change{{Key: 7, Old: small(7), Had: true}, {Key: 60, New: 1, Has: true}}
	a, b := nodes(t, s, old), nodes(t, s, root)
	walk := diff.Walk(s, old, root)
	unchanged(t, d, s, "told", func() {
		l, e := diff.Of(s, old, root)
		must(t, e)
		x, y, e := diff.Only(s, old, root)
		must(t, e)
		clear(l)
		clear(x)
		clear(y)
		_, _, _ = append(l, api.Change{}), append(x, 1), append(y, 1)
		for c := range walk {
			c.Key = 99
		}
		for c := range walk {
			c.Old = c.Key
		}
		told(t, s, old, root, want)
		if l := slices.Collect(walk); !slices.Equal(l, want) {
			t.Errorf("Walk: %v; want %v", l, want)
		}
		only(t, s, old, root, apart(a, b), apart(b, a))
	})
	// The two lists share nothing.
	x, y, e := diff.Only(s, old, root)
	must(t, e)
	was := slices.Clone(y)
	x = append(x, 7, 7, 7, 7, 7, 7, 7, 7)
	clear(x)
	if !slices.Equal(y, was) {
		t.Errorf("%v; want %v", y, was)
	}
}

// Trees of two kinds are beside one another as any are.
func TestTwoKinds(t *testing.T) {
	_, s := begin(t, 64, 16)
	tree := tops(t, s, 1, 2, 3)
	root, has := uint32(0), list{}
	for k := range uint64(9) {
		n, e := s.NewData(api.Block{byte(k)})
		must(t, e)
		root, _, _, e = btree.Put(s, root, api.NodeMap, k, uint64(n))
		must(t, e)
		has[k] = uint64(n)
	}
	differs(t, s, tree, root, listed(1, 2, 3), has)
}
