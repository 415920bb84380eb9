package diff_test

import (
	"fmt"
	"maps"
	"math/rand"
	"slices"
	"testing"

	"voile/api"
	"voile/btree"
	"voile/diff"
	"voile/disk"
	"voile/store"
	"voile/super"
)

// orders are keys in many orders.
func orders(many int) map[string][]uint64 {
	rising := row(1, uint64(many), 1)
	falling := slices.Clone(rising)
	slices.Reverse(falling)
	var turns, evens []uint64
	for i := range many {
		if i%2 == 0 {
			turns = append(turns, rising[i/2])
			evens = append(evens, rising[i])
		} else {
			turns = append(turns, falling[i/2])
		}
	}
	for i := 1; i < many; i += 2 {
		evens = append(evens, rising[i])
	}
	all := map[string][]uint64{"rising": rising, "falling": falling, "from both ends": turns, "every other one": evens}
	for seed := range 3 {
		chance := slices.Clone(rising)
		rand.New(rand.NewSource(int64(seed))).Shuffle(many, func(i, j int) { chance[i], chance[j] = chance[j], chance[i] })
		all[fmt.Sprintf("by chance %d", seed)] = chance
	}
	return all
}

// Keys that are put in each order, and let go in each: the tree beside what it was a while ago, behind each step; and a new while begins now and then.
func TestOrders(t *testing.T) {
	const many = 70
	for in, puts := range orders(many) {
		for out, deletes := range orders(many) {
			_, s := begin(t, 200, 8)
			old, root := uint32(0), uint32(0)
			had, has := list{}, list{}
			step := func(i int) {
				t.Helper()
				want := plain(had, has)
				if l, e := diff.Of(s, old, root); !slices.Equal(l, want) || e != api.OK {
					t.Errorf("Of: %v, errno %d; want %v", l, e, want)
				}
				if i%7 == 0 {
					differs(t, s, old, root, had, has)
				}
				if i%17 == 16 {
					must(t, s.Drop(old))
					old, had = hold(t, s, root), maps.Clone(has)
				}
				if in < out && i%11 == 10 {
					commit(t, s, old, root)
				}
			}
			for i, key := range puts {
				root = with(t, s, root, key, small(key))
				has[key] = small(key)
				step(i)
			}
			for i, key := range deletes {
				root = without(t, s, root, key)
				delete(has, key)
				step(i)
			}
			if t.Failed() {
				t.Fatalf("put %s, let go %s", in, out)
			}
		}
	}
}

// kept is a tree of a world: its root, which the world names once, and what it has.
type kept struct {
	root uint32
	list list
}

// world is a store with trees in it that share nodes, or don't.
type world struct {
	t     testing.TB
	d     *disk.Disk
	s     *store.Store
	trees []kept
	next  func(n int) int
	done  int
}

func newWorld(t testing.TB, meta int, next func(n int) int) *world {
	w := &world{t: t, next: next}
	w.d, w.s = begin(t, meta, 8)
	for range 3 {
		w.trees = append(w.trees, kept{list: list{}})
	}
	return w
}

func (w *world) key() uint64 {
	switch k := uint64(w.next(256)); k {
	case 255:
		return most
	case 254:
		return most - 1
	default:
		return k
	}
}

// act does something to the world.
func (w *world) act() {
	w.t.Helper()
	x := &w.trees[w.next(len(w.trees))]
	switch w.next(12) {
	case 0, 1, 2, 3, 4:
		key, val := w.key(), uint64(w.next(4))
		root, _, _, e := btree.Put(w.s, x.root, api.NodeTop, key, val)
		w.took(x, root, e, func() { x.list[key] = val })
	case 5, 6, 7, 8:
		key := w.key()
		if keys := slices.Sorted(maps.Keys(x.list)); len(keys) > 0 && w.next(4) > 0 {
			key = keys[w.next(len(keys))]
		}
		root, _, _, e := btree.Delete(w.s, x.root, key)
		w.took(x, root, e, func() { delete(x.list, key) })
	case 9, 10: // It is as another one is.
		y := w.trees[w.next(len(w.trees))]
		must(w.t, w.s.Hold(y.root))
		must(w.t, w.s.Drop(x.root))
		x.root, x.list = y.root, maps.Clone(y.list)
	case 11:
		if e := w.s.Commit(api.Super{Top: w.trees[0].root}); e != api.OK {
			should(w.t, "Commit", e, api.ErrFull)
			w.empty()
		}
	}
}

// took takes up what became of a tree, if there was room.
func (w *world) took(x *kept, root uint32, e api.Errno, change func()) {
	w.t.Helper()
	if e == api.ErrFull {
		return
	}
	must(w.t, e)
	x.root = root
	change()
	w.done++
}

// empty lets all be nothing again: a commit without room has gone back to what was.
func (w *world) empty() {
	w.d, w.s = begin(w.t, w.s.Super().Meta, 8)
	for i := range w.trees {
		w.trees[i] = kept{list: list{}}
	}
}

// check holds each two trees against their lists.
func (w *world) check() {
	w.t.Helper()
	unchanged(w.t, w.d, w.s, "a difference", func() {
		for i, x := range w.trees {
			for _, y := range w.trees[i:] {
				differs(w.t, w.s, x.root, y.root, x.list, y.list)
			}
		}
	})
}

// The difference is that of plain lists, whatever was done.
func TestTreesByChance(t *testing.T) {
	done := 0
	for seed := range 60 {
		r := rand.New(rand.NewSource(int64(seed)))
		w := newWorld(t, []int{16, 60, 120, 240}[seed%4], r.Intn)
		for range 300 {
			w.act()
			if r.Intn(4) == 0 {
				w.check()
			}
			if t.Failed() {
				t.Fatalf("seed %d", seed)
			}
		}
		done += w.done
	}
	if done < 3000 {
		t.Errorf("only %d acts done", done)
	}
}

// Nothing is changed, not even which block comes next: of two stores to which the same is done all roots are the same, though one of them is looked at.
func TestLooksChangeNothing(t *testing.T) {
	r := rand.New(rand.NewSource(1))
	var told []int
	looked := newWorld(t, 100, func(n int) int {
		told = append(told, r.Intn(n))
		return told[len(told)-1]
	})
	other := newWorld(t, 100, func(int) int {
		n := told[0]
		told = told[1:]
		return n
	})
	for range 500 {
		looked.act()
		other.act()
		looked.check()
		for i, x := range looked.trees {
			if x.root != other.trees[i].root {
				t.Fatalf("the root %d; want %d", x.root, other.trees[i].root)
			}
		}
	}
	commit(t, looked.s, 0, looked.trees[0].root)
	commit(t, other.s, 0, other.trees[0].root)
	if !looked.d.Same(other.d) {
		t.Error("the disks differ")
	}
}

// under are the nodes that stand under ones that both trees have.
func under(t testing.TB, s *store.Store, old, new uint32) []uint32 {
	t.Helper()
	a, b := nodes(t, s, old), nodes(t, s, new)
	var l []uint32
	for _, n := range a {
		if slices.Contains(b, n) {
			l = append(l, nodes(t, s, n)[1:]...)
		}
	}
	slices.Sort(l)
	return slices.Compact(l)
}

// What stands under a node that both trees have is not looked at: the difference is told though nothing of that is there any more.
func unlooked(t testing.TB, d *disk.Disk, s *store.Store, old, new uint32, had, has list) int {
	t.Helper()
	l := under(t, s, old, new)
	a, b := nodes(t, s, old), nodes(t, s, new)
	spoiled := d.Copy()
	for _, n := range l {
		must(t, super.Write(spoiled, 2+int(n), api.Block{9}))
	}
	bare := open(t, spoiled)
	want := plain(had, has)
	if l, e := diff.Of(bare, old, new); !slices.Equal(l, want) || e != api.OK {
		t.Errorf("Of(%d, %d): %v, errno %d; want %v", old, new, l, e, want)
	}
	if l := slices.Collect(diff.Walk(bare, new, old)); !slices.Equal(l, turned(want)) {
		t.Errorf("Walk(%d, %d): %v; want %v", new, old, l, turned(want))
	}
	only(t, bare, old, new, apart(a, b), apart(b, a))
	only(t, bare, new, old, apart(b, a), apart(a, b))
	return len(l)
}

// Of trees that are as many levels, and of ones that are not, all of one commit, or of many.
func TestWhatIsNotLookedAt(t *testing.T) {
	const many = 150
	for _, gap := range []int{1, 10, many} {
		for name, keys := range orders(many) {
			d, s := begin(t, 240, 8)
			root, has, far := uint32(0), list{}, 0
			var trees []kept
			for i, key := range keys {
				root = with(t, s, root, key, small(key))
				has[key] = small(key)
				if i%gap == 0 {
					commit(t, s, 0, root)
				}
				if i%30 == 19 {
					trees = append(trees, kept{hold(t, s, root), maps.Clone(has)})
				}
			}
			if e := s.Commit(api.Super{Top: root}); e == api.ErrFull {
				continue
			}
			trees = append(trees, kept{root, has}, kept{0, nil})
			for _, x := range trees {
				for _, y := range trees {
					if unlooked(t, d, s, x.root, y.root, x.list, y.list) > 0 && levels(t, s, x.root) != levels(t, s, y.root) {
						far++
					}
				}
			}
			if name == "rising" && far == 0 {
				t.Error("no two trees of other levels share inner nodes")
			}
			if t.Failed() {
				t.Fatalf("%s, %d", name, gap)
			}
		}
	}
}

// A tree beside itself is looked at no further than its root.
func TestBesideItself(t *testing.T) {
	for _, many := range []uint64{1, 7, 22, 100} {
		d, s := begin(t, 120, 8)
		root := tops(t, s, row(1, many, 1)...)
		commit(t, s, 0, root)
		l := listed(row(1, many, 1)...)
		if n := unlooked(t, d, s, root, root, l, l); n != len(nodes(t, s, root))-1 {
			t.Errorf("%d nodes are not looked at", n)
		}
	}
}

// FuzzDiff does what bytes tell.
func FuzzDiff(f *testing.F) {
	f.Add(uint8(0), []byte{1, 2, 3})
	f.Add(uint8(30), []byte("some keys are put, and some are let go; some trees are as others are"))
	f.Fuzz(func(t *testing.T, meta uint8, l []byte) {
		l = l[:min(len(l), 2000)]
		at := 0
		w := newWorld(t, 16+int(meta)%225, func(n int) int {
			if at == len(l) {
				return 0
			}
			at++
			return int(l[at-1]) % n
		})
		for at < len(l) {
			w.act()
		}
		w.check()
		if w.s.Commit(api.Super{Top: w.trees[0].root}) == api.OK {
			for _, x := range w.trees {
				for _, y := range w.trees {
					unlooked(t, w.d, w.s, x.root, y.root, x.list, y.list)
				}
			}
		}
	})
}
