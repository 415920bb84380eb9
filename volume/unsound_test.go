package volume_test

import (
	"fmt"
	"math/rand"
	"reflect"
	"testing"

	"voile/api"
	"voile/btree"
	"voile/disk"
	"voile/store"
	"voile/volume"
)

// wild is a store of nodes that name one another by chance, are named as often as chance would have it, and may be no nodes at all.
type wild struct {
	t    testing.TB
	d    *disk.Disk
	s    *store.Store
	next func(n int) int
	some []uint32
}

func newWild(t testing.TB, next func(n int) int) *wild {
	w := &wild{t: t, next: next}
	w.d, w.s = begin(t, 16+next(2)*16, 8)
	for range next(9) {
		_, e := w.s.NewData(api.Block{})
		if e != api.OK {
			break
		}
	}
	for range 2 + next(10) {
		n, e := w.s.New(api.Node{Kind: api.NodeTop})
		must(t, e)
		w.some = append(w.some, n)
		if next(8) == 0 {
			must(t, w.s.Commit(api.Super{}))
		}
		for _, n := range w.some {
			// Those that were committed stay as they are.
			w.s.Put(n, w.node())
		}
	}
	for range next(12) {
		w.s.Hold(w.one())
	}
	if next(8) == 0 {
		w.s.Drop(w.one())
	}
	if next(3) == 0 {
		must(t, w.s.Commit(api.Super{}))
	}
	if next(8) == 0 {
		spoil(t, w.d, w.one())
	}
	if next(4) == 0 {
		if m, _ := w.s.Room(); m > 6 {
			fill(t, w.s, next(6))
		}
	}
	return w
}

func (w *wild) one() uint32 { return w.some[w.next(len(w.some))] }

// node is a node by chance.
func (w *wild) node() api.Node {
	x := api.Node{Kind: api.NodeInner + api.NodeKind(w.next(3))}
	key := uint64(w.next(8))
	for range w.next(7) {
		x.Keys = append(x.Keys, key)
		key += 1 + uint64(w.next(4))
	}
	for range x.Keys {
		val := uint64(w.one())
		switch {
		case w.next(16) == 0:
			val = []uint64{0, 1, 31, 32, 1 << 31, 1<<32 + 3, 300, most}[w.next(8)]
		case x.Kind == api.NodeTop:
			val = val<<32*uint64(w.next(4)&1) + uint64(w.next(40))
		case x.Kind == api.NodeMap:
			val = uint64(w.next(9))
		}
		x.Vals = append(x.Vals, val)
	}
	return x
}

// act calls something, and tells whether it was done.
func (w *wild) act() bool {
	w.t.Helper()
	v, b := uint64(w.next(24)), w.next(24)
	calls := []call{getting(v), creating(v, b), deleting(v), resizing(v, b), snapping(v, uint64(b)), finding(v, b), mapping(v, b, uint32(w.next(8))), unmapping(v, b), listing()}
	c, top := calls[w.next(len(calls))], w.one()
	was, before := looksOf(w.s), w.d.Copy()
	a := c.do(w.s, top)
	if a.e != api.OK && !reflect.DeepEqual(a, answer{e: a.e}) {
		w.t.Errorf("%s: %+v; want the error alone", c.what, a)
	}
	if a.e != api.OK || !c.changes() {
		same(w.t, w.d, w.s, c.what, was, before)
		return false
	}
	if a.root != 0 {
		w.some = append(w.some, a.root)
	}
	return true
}

// P0.6: no call panics, none hangs; what is refused has changed nothing, however little the store is sound.
func TestTreesThatAreNotSound(t *testing.T) {
	done, refused := 0, 0
	for seed := range 3000 {
		w := newWild(t, rand.New(rand.NewSource(int64(seed))).Intn)
		for range 16 {
			if w.act() {
				done++
			} else {
				refused++
			}
		}
		if t.Failed() {
			t.Fatalf("seed %d", seed)
		}
	}
	if done < 1000 || refused < 1000 {
		t.Errorf("only %d acts done, %d refused", done, refused)
	}
}

// FuzzUnsound does what bytes tell.
func FuzzUnsound(f *testing.F) {
	f.Add([]byte{1, 2, 3})
	f.Add([]byte("nodes that name one another, and themselves"))
	f.Fuzz(func(t *testing.T, l []byte) {
		l = l[:min(len(l), 1000)]
		at := 0
		w := newWild(t, func(n int) int {
			if at == len(l) {
				return 0
			}
			at++
			return int(l[at-1]) % n
		})
		for at < len(l) {
			w.act()
		}
	})
}

// over is an inner node of these keys, over nodes.
func over(t testing.TB, s *store.Store, keys []uint64, under ...uint32) uint32 {
	t.Helper()
	x := api.Node{Kind: api.NodeInner, Keys: keys}
	for _, n := range under {
		x.Vals = append(x.Vals, uint64(n))
	}
	n, e := s.New(x)
	must(t, e)
	return n
}

// leaf is a map's leaf of these keys, each with a data block of its own.
func leaf(t testing.TB, s *store.Store, keys ...uint64) uint32 {
	t.Helper()
	x := api.Node{Kind: api.NodeMap, Keys: keys}
	for range keys {
		n, e := s.NewData(api.Block{})
		must(t, e)
		x.Vals = append(x.Vals, uint64(n))
	}
	n, e := s.New(x)
	must(t, e)
	return n
}

// sizes are a top tree's leaf of these volumes, with nothing mapped.
func sizes(t testing.TB, s *store.Store, keys ...uint64) uint32 {
	t.Helper()
	vals := make([]uint64, len(keys))
	for i := range vals {
		vals[i] = 24
	}
	return given(t, s, keys, vals)
}

// A volume whose map is its own top tree: what is changed in the one would be changed in the other one, too.
func TestMapThatIsTheTopTree(t *testing.T) {
	for _, holds := range []int{0, 1, 2} {
		for _, committed := range []bool{false, true} {
			d, s := begin(t, 64, 32)
			own := sizes(t, s, 20, 21, 22, 23)
			top := over(t, s, []uint64{1, 7, 10, 13, 16, 20}, leaf(t, s, 1, 2, 3, 4, 5, 6), leaf(t, s, 7, 8, 9), leaf(t, s, 10, 11, 12), leaf(t, s, 13, 14, 15), leaf(t, s, 16, 17, 18), own)
			must(t, s.Put(own, api.Node{Kind: api.NodeTop, Keys: []uint64{20, 21, 22, 23}, Vals: []uint64{24, 24, 24, uint64(top)<<32 + 24}}))
			for range holds {
				must(t, s.Hold(top))
			}
			if committed {
				must(t, s.Commit(api.Super{Top: top}))
			}
			for _, c := range []call{mapping(23, 0, 0), mapping(23, 3, 0), unmapping(23, 8), resizing(23, 2), deleting(23), listing()} {
				wrong(t, d, s, "a map that is the top tree", c, top, api.ErrSound)
			}
		}
	}
	// One that shares but a leaf with it.
	d, s := begin(t, 64, 32)
	shared := leaf(t, s, 4, 5, 6)
	top := over(t, s, []uint64{4, 20}, shared, sizes(t, s, 20, 21, 22, 23))
	root := over(t, s, []uint64{1, 4}, leaf(t, s, 1, 2, 3), shared)
	top = retold(t, s, top, call{"Create", func(s *store.Store, top uint32) answer {
		next, _, _, e := btree.Put(s, top, api.NodeTop, 23, uint64(root)<<32+24)
		return answer{root: next, e: e}
	}})
	for _, c := range []call{mapping(23, 0, 0), unmapping(23, 2), deleting(23)} {
		wrong(t, d, s, "a map that shares a leaf with the top tree", c, top, api.ErrSound)
	}
}

// A node that stands twice in a map, though it is named once.
func TestNodeThatStandsTwice(t *testing.T) {
	for _, committed := range []bool{false, true} {
		for _, held := range []bool{false, true} {
			d, s := begin(t, 64, 32)
			twice := leaf(t, s, 4, 5, 6)
			root := over(t, s, []uint64{1, 4, 7}, leaf(t, s, 1, 2, 3), twice, twice)
			top := given(t, s, []uint64{5}, []uint64{uint64(root)<<32 + 24})
			if committed {
				must(t, s.Commit(api.Super{Top: top}))
			}
			if held {
				must(t, s.Hold(top))
			}
			for _, c := range []call{mapping(5, 0, 0), mapping(5, 5, 0), unmapping(5, 2), unmapping(5, 5), resizing(5, 2)} {
				wrong(t, d, s, "a node that stands twice", c, top, api.ErrSound)
			}
			// Dropped, it would be named less often than not at all.
			wrong(t, d, s, "a node that stands twice", deleting(5), top, api.ErrState)
		}
	}
}

// A node that names a free block, beside the way: that must not come to be one of those that are made.
func TestNodeThatNamesWhatIsFree(t *testing.T) {
	for _, committed := range []bool{false, true} {
		d, s := begin(t, 64, 32)
		root := over(t, s, []uint64{1, 7}, leaf(t, s, 1, 2, 3), 40)
		top := given(t, s, []uint64{5}, []uint64{uint64(root)<<32 + 24})
		if committed {
			must(t, s.Commit(api.Super{Top: top}))
		}
		for _, c := range []call{mapping(5, 0, 0), mapping(5, 1, 0), unmapping(5, 2), deleting(5)} {
			wrong(t, d, s, "a node that names what is free", c, top, api.ErrState)
		}
		wrong(t, d, s, "a node that names what is free", resizing(5, 2), top, api.ErrSound)
	}
}

// Top trees whose keys are not where they must be.
func TestTopTreeThatIsNotSound(t *testing.T) {
	// A child's first key below what the node above says: what is on its way there would come to stand elsewhere.
	d, s := begin(t, 64, 32)
	top := over(t, s, []uint64{1, 6, 14}, sizes(t, s, 1, 2, 3), sizes(t, s, 6, 7, 8), sizes(t, s, 1, 14, 15))
	for _, c := range all(14, 1) {
		wrong(t, d, s, "a key that is not above the one ahead", c, top, api.ErrSound)
	}
	// What stands elsewhere is as it is, but for All, which goes over all.
	got(t, s, top, 7, table{7: {24, nil}})
	for i, top := range []uint32{
		over(t, s, []uint64{1, 5}, sizes(t, s, 1, 2, 9), sizes(t, s, 5, 6, 7)),
		over(t, s, []uint64{1, 5}, sizes(t, s, 1, 2, 3), sizes(t, s, 5, 6)),
		over(t, s, []uint64{1, 5}, sizes(t, s, 1, 2, 3), leaf(t, s, 5, 6, 7)),
		leaf(t, s, 1, 2, 3),
		over(t, s, nil),
	} {
		wrong(t, d, s, fmt.Sprintf("a top tree that is not sound (%d)", i), listing(), top, api.ErrSound)
	}
}

// A node may stand 20 deep under the root, and no deeper.
func TestDeepNodes(t *testing.T) {
	for many := range 24 {
		d, s := begin(t, 120, 32)
		top, root := sizes(t, s, 5), leaf(t, s, 5)
		top = retold(t, s, top, call{"Create", func(s *store.Store, top uint32) answer {
			next, _, _, e := btree.Put(s, top, api.NodeTop, 5, uint64(root)<<32+24)
			return answer{root: next, e: e}
		}})
		for range many {
			top = over(t, s, []uint64{5}, top)
		}
		for _, c := range all(5, 5) {
			switch {
			case many > 20:
				wrong(t, d, s, "too deep", c, top, api.ErrSound)
			case c.what == "Get", c.what == "Find":
				if a := c.do(s, top); !a.is || a.e != api.OK {
					t.Errorf("%s: %+v", c.what, a)
				}
			}
		}
		for range many {
			root = over(t, s, []uint64{5}, root)
		}
		top = given(t, s, []uint64{5}, []uint64{uint64(root)<<32 + 24})
		if data, is, e := volume.Find(s, top, 5, 5); is != (many <= 20) || (e == api.OK) != is || !is && (e != api.ErrSound || data != 0) {
			t.Errorf("%d deep: Find: %d, %v, errno %d", many, data, is, e)
		}
	}
}
