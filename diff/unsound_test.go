package diff_test

import (
	"math/rand"
	"slices"
	"testing"

	"voile/api"
	"voile/btree"
	"voile/diff"
	"voile/disk"
	"voile/store"
)

// wild is a store of nodes that name one another by chance, and may be no nodes at all.
type wild struct {
	t    testing.TB
	d    *disk.Disk
	s    *store.Store
	next func(n int) int
	some []uint32
}

func newWild(t testing.TB, next func(n int) int) *wild {
	w := &wild{t: t, next: next}
	w.d, w.s = begin(t, 16+next(2)*16, 8)
	for range 2 + next(10) {
		w.some = append(w.some, add(t, w.s, api.Node{Kind: api.NodeTop}))
		if next(8) == 0 {
			must(t, w.s.Commit(api.Super{}))
		}
		for _, n := range w.some {
			// Those that were committed stay as they are.
			w.s.Put(n, w.node())
		}
	}
	if next(3) == 0 {
		must(t, w.s.Commit(api.Super{}))
	}
	if next(8) == 0 {
		spoil(t, w.d, w.one())
	}
	return w
}

func (w *wild) one() uint32 { return w.some[w.next(len(w.some))] }

// node is a node by chance.
func (w *wild) node() api.Node {
	x := api.Node{Kind: api.NodeInner + api.NodeKind(w.next(6))%3}
	key := uint64(w.next(8))
	for range w.next(7) {
		x.Keys = append(x.Keys, key)
		key += 1 + uint64(w.next(4))
	}
	for range x.Keys {
		val := uint64(w.one())
		if w.next(20) == 0 {
			val = []uint64{0, 1, 31, 32, 1 << 31, 1<<32 + 3, most}[w.next(7)]
		}
		x.Vals = append(x.Vals, val)
	}
	return x
}

// look asks for the difference of two trees, both ways round: what one call tells, the others bear out.
func (w *wild) look(old, new uint32) api.Errno {
	w.t.Helper()
	l, e := diff.Of(w.s, old, new)
	if walked := slices.Collect(diff.Walk(w.s, old, new)); !slices.Equal(walked, l) || e != api.OK && l != nil {
		w.t.Errorf("Of: %v, errno %d; Walk: %v", l, e, walked)
	}
	a, b, only := diff.Only(w.s, old, new)
	if only != e || e != api.OK && (a != nil || b != nil) || !rises(a) || !rises(b) || len(apart(a, b)) != len(a) {
		w.t.Errorf("Of: errno %d; Only: %v, %v, errno %d", e, a, b, only)
	}
	if e != api.OK && e != api.ErrArg && e != api.ErrSound {
		w.t.Errorf("errno %d", e)
	}
	had, badOld := btree.All(w.s, old, 0)
	has, badNew := btree.All(w.s, new, 0)
	if e != api.OK && badOld == api.OK && badNew == api.OK {
		w.t.Errorf("errno %d, of trees of errno %d and %d", e, badOld, badNew)
	}
	if w.sound(old) && w.sound(new) {
		if want := plain(listOf(had), listOf(has)); !slices.Equal(l, want) || e != api.OK {
			w.t.Errorf("Of: %v, errno %d; want %v", l, e, want)
		}
	}
	return e
}

// sound: is a tree such as is said?
func (w *wild) sound(root uint32) bool {
	return btree.Check(w.s, root, api.NodeTop) == api.OK || btree.Check(w.s, root, api.NodeMap) == api.OK
}

// alone asks for the difference of a tree and the empty one: it is all keys, or what is wrong with the tree.
func (w *wild) alone(root uint32) {
	w.t.Helper()
	pairs, want := btree.All(w.s, root, 0)
	var all []api.Change
	for _, p := range pairs {
		all = append(all, api.Change{Key: p.Key, New: p.Val, Has: true})
	}
	if l, e := diff.Of(w.s, 0, root); !slices.Equal(l, all) || e != want {
		w.t.Errorf("Of: %v, errno %d; want %v, errno %d", l, e, all, want)
	}
	if l, e := diff.Of(w.s, root, 0); !slices.Equal(l, turned(all)) || e != want {
		w.t.Errorf("Of: %v, errno %d; want %v, errno %d", l, e, turned(all), want)
	}
	numbers, _ := btree.Nodes(w.s, root)
	slices.Sort(numbers)
	if l, r, e := diff.Only(w.s, root, 0); !slices.Equal(l, slices.Compact(numbers)) || r != nil || e != want {
		w.t.Errorf("Only: %v, %v, errno %d; want %v, errno %d", l, r, e, numbers, want)
	}
	if l, e := diff.Of(w.s, root, root); l != nil || e != api.OK && e != want {
		w.t.Errorf("Of a tree with itself: %v, errno %d", l, e)
	}
}

// rises: does each number stand above the one ahead of it?
func rises(l []uint32) bool {
	for i := 1; i < len(l); i++ {
		if l[i] <= l[i-1] {
			return false
		}
	}
	return true
}

func listOf(pairs []api.Pair) list {
	l := list{}
	for _, p := range pairs {
		l[p.Key] = p.Val
	}
	return l
}

// P0.6: no call panics, none hangs; nothing is changed, however little the store is sound.
func TestTreesThatAreNotSound(t *testing.T) {
	told := map[api.Errno]int{}
	for seed := range 2000 {
		w := newWild(t, rand.New(rand.NewSource(int64(seed))).Intn)
		unchanged(t, w.d, w.s, "what is not sound", func() {
			for range 12 {
				told[w.look(w.one(), w.one())]++
				w.alone(w.one())
			}
		})
		if t.Failed() {
			t.Fatalf("seed %d", seed)
		}
	}
	if told[api.OK] < 1000 || told[api.ErrArg] < 1000 || told[api.ErrSound] < 1000 {
		t.Errorf("only %v", told)
	}
}

// FuzzUnsound does what bytes tell.
func FuzzUnsound(f *testing.F) {
	f.Add([]byte{1, 2, 3})
	f.Add([]byte("nodes that name one another, and themselves"))
	f.Fuzz(func(t *testing.T, l []byte) {
		l = l[:min(len(l), 300)]
		at := 0
		w := newWild(t, func(n int) int {
			if at == len(l) {
				return 0
			}
			at++
			return int(l[at-1]) % n
		})
		unchanged(t, w.d, w.s, "what is not sound", func() {
			for at < len(l) {
				w.look(w.one(), w.one())
				w.alone(w.one())
			}
		})
	})
}
