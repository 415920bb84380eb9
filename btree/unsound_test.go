package btree_test

import (
	"cmp"
	"math/rand"
	"slices"
	"testing"

	"voile/api"
	"voile/btree"
	"voile/disk"
	"voile/store"
)

// wild is a store of nodes that name one another by chance, are named as often as chance would have it, and may be no nodes at all.
type wild struct {
	t    testing.TB
	d    *disk.Disk
	s    *store.Store
	next func(n int) int
	some []uint32
}

func newWild(t testing.TB, next func(n int) int) *wild {
	w := &wild{t: t, next: next}
	w.d, w.s = begin(t, 16+next(2)*16, 8)
	for range 2 + next(10) {
		w.some = append(w.some, add(t, w.s, api.Node{Kind: api.NodeTop}))
		if next(8) == 0 {
			must(t, w.s.Commit(api.Super{}))
		}
		for _, n := range w.some {
			// Those that were committed stay as they are.
			w.s.Put(n, w.node())
		}
	}
	for range next(6) {
		w.s.Hold(w.one())
	}
	if next(8) == 0 {
		w.s.Drop(w.one())
	}
	if next(3) == 0 {
		must(t, w.s.Commit(api.Super{}))
	}
	if next(8) == 0 {
		spoil(t, w.d, w.one())
	}
	if next(4) == 0 {
		fill(t, w.s, next(6))
	}
	return w
}

func (w *wild) one() uint32 { return w.some[w.next(len(w.some))] }

// node is a node by chance.
func (w *wild) node() api.Node {
	x := api.Node{Kind: api.NodeInner + api.NodeKind(w.next(6))%3}
	if w.next(2) == 0 {
		x.Kind = api.NodeInner
	}
	key := uint64(w.next(8))
	for range w.next(7) {
		x.Keys = append(x.Keys, key)
		key += 1 + uint64(w.next(4))
	}
	for range x.Keys {
		val := uint64(w.one())
		switch {
		case w.next(12) == 0:
			val = []uint64{0, 1, 31, 32, 1 << 31, 1<<32 + 3, most}[w.next(7)]
		case x.Kind == api.NodeTop:
			val <<= 32 * uint64(w.next(2))
		case x.Kind == api.NodeMap:
			val = uint64(w.next(9))
		}
		x.Vals = append(x.Vals, val)
	}
	return x
}

// act calls something, and tells whether it was done.
func (w *wild) act() bool {
	w.t.Helper()
	root, key := w.one(), uint64(w.next(32))
	kind := api.NodeMap + api.NodeKind(w.next(2))
	was, before := looksOf(w.s), w.d.Copy()
	done := w.next(3)
	r, v, is, e := uint32(0), uint64(0), false, api.OK
	switch done {
	case 0:
		r, v, is, e = btree.Put(w.s, root, kind, key, uint64(w.next(9)))
	case 1:
		r, v, is, e = btree.Delete(w.s, root, key)
		if e == api.OK && !is {
			if r != root || v != 0 {
				w.t.Errorf("Delete of what is not there: %d, %d", r, v)
			}
			done = 2
		}
	default:
		w.look(root, kind, key)
	}
	if e == api.OK && done < 2 {
		w.some = append(w.some, r)
		return true
	}
	if done < 2 && (r != 0 || v != 0 || is) {
		w.t.Errorf("beside errno %d: %d, %d, %v", e, r, v, is)
	}
	sameLooks(w.t, "what was refused, or looked at", w.s, was)
	if !w.d.Same(before) || !slices.Equal(w.d.Open(), before.Open()) {
		w.t.Error("the disk is changed")
	}
	return false
}

// look calls each look: what one of them tells, the others bear out.
func (w *wild) look(root uint32, kind api.NodeKind, key uint64) {
	w.t.Helper()
	v, is, get := btree.Get(w.s, root, key)
	if get != api.OK && (v != 0 || is) {
		w.t.Errorf("Get: %d, %v beside errno %d", v, is, get)
	}
	pairs, all := btree.All(w.s, root, 0)
	numbers, every := btree.Nodes(w.s, root)
	if all != every || all != api.OK && (pairs != nil || numbers != nil) {
		w.t.Errorf("All: %v, errno %d; Nodes: %v, errno %d", pairs, all, numbers, every)
	}
	// A tree that is such as is said is one to all others.
	if btree.Check(w.s, root, kind) == api.OK {
		if at, found := slices.BinarySearchFunc(pairs, key, func(p api.Pair, k uint64) int { return cmp.Compare(p.Key, k) }); get != api.OK || all != api.OK || found != is || is && pairs[at].Val != v {
			w.t.Errorf("Get: %d, %v, errno %d; All: %v, errno %d", v, is, get, pairs, all)
		}
	}
}

// P0.6: no call panics, none hangs; what is refused has changed nothing, however little the store is sound.
func TestTreesThatAreNotSound(t *testing.T) {
	done, refused := 0, 0
	for seed := range 3000 {
		w := newWild(t, rand.New(rand.NewSource(int64(seed))).Intn)
		for range 12 {
			if w.act() {
				done++
			} else {
				refused++
			}
		}
		if t.Failed() {
			t.Fatalf("seed %d", seed)
		}
	}
	if done < 1000 || refused < 1000 {
		t.Errorf("only %d acts done, %d refused", done, refused)
	}
}

// FuzzUnsound does what bytes tell.
func FuzzUnsound(f *testing.F) {
	f.Add([]byte{1, 2, 3})
	f.Add([]byte("nodes that name one another, and themselves"))
	f.Fuzz(func(t *testing.T, l []byte) {
		l = l[:min(len(l), 1000)]
		at := 0
		w := newWild(t, func(n int) int {
			if at == len(l) {
				return 0
			}
			at++
			return int(l[at-1]) % n
		})
		for at < len(l) {
			w.act()
		}
	})
}
