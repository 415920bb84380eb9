package btree_test

import (
	"fmt"
	"maps"
	"math/rand"
	"slices"
	"strconv"
	"testing"

	"voile/api"
	"voile/btree"
	"voile/store"
)

// knot is a tree's node just as the chapter's words tell it: a leaf's keys, or the knots under it. (A knot's own key is its first one, however deep.)
type knot struct {
	keys  []uint64
	under []*knot
}

func (k *knot) first() uint64 {
	if k.under == nil {
		return k.keys[0]
	}
	return k.under[0].first()
}

// size is how many keys a node has: of a leaf its own, of an inner one a key for each child.
func (k *knot) size() int { return len(k.keys) + len(k.under) }

// child is the place of the child under which a key stands, or would.
func (k *knot) child(key uint64) int {
	for i := len(k.under) - 1; i > 0; i-- {
		if k.under[i].first() <= key {
			return i
		}
	}
	return 0
}

// add puts a key that is not there; what is split off is told.
func (k *knot) add(key uint64) *knot {
	if k.under == nil {
		k.keys = append(k.keys, key)
		slices.Sort(k.keys)
	} else {
		i := k.child(key)
		if more := k.under[i].add(key); more != nil {
			k.under = slices.Insert(k.under, i+1, more)
		}
	}
	return k.keep(3, 7)
}

// keep lets a node of many have the first ones, so many, alone, and tells one with the others.
func (k *knot) keep(first, many int) *knot {
	if k.size() < many {
		return nil
	}
	more := &knot{}
	if k.under == nil {
		more.keys = slices.Clone(k.keys[first:])
		k.keys = k.keys[:first:first]
	} else {
		more.under = slices.Clone(k.under[first:])
		k.under = k.under[:first:first]
	}
	return more
}

// let lets a key go that is there.
func (k *knot) let(key uint64) {
	if k.under == nil {
		k.keys = slices.DeleteFunc(k.keys, func(x uint64) bool { return x == key })
		return
	}
	i := k.child(key)
	k.under[i].let(key)
	if k.under[i].size() >= 3 {
		return
	}
	if i == len(k.under)-1 {
		i--
	}
	left, right := k.under[i], k.under[i+1]
	left.keys, left.under = append(left.keys, right.keys...), append(left.under, right.under...)
	k.under = slices.Delete(k.under, i+1, i+2)
	if more := left.keep(left.size()/2, 7); more != nil {
		k.under = slices.Insert(k.under, i+1, more)
	}
}

// text is the tree as shape tells it.
func (k *knot) text() string {
	if k == nil {
		return "-"
	}
	text := ""
	for _, key := range k.keys {
		text += " " + strconv.FormatUint(key, 10)
	}
	for _, u := range k.under {
		text += " " + strconv.FormatUint(u.first(), 10) + ":" + u.text()
	}
	return "(" + text[1:] + ")"
}

// words is a tree as the words tell it: nothing, or its root.
type words struct{ root *knot }

func (w *words) put(key uint64) {
	if w.root == nil {
		w.root = &knot{keys: []uint64{key}}
		return
	}
	if more := w.root.add(key); more != nil {
		w.root = &knot{under: []*knot{w.root, more}}
	}
}

func (w *words) delete(key uint64) {
	w.root.let(key)
	if len(w.root.under) == 1 {
		w.root = w.root.under[0]
	}
	if w.root.size() == 0 {
		w.root = nil
	}
}

// shows holds all that is told of a tree against a plain list of its keys.
func shows(t testing.TB, s *store.Store, root uint32, kind api.NodeKind, list map[uint64]uint64) {
	t.Helper()
	keys := slices.Sorted(maps.Keys(list))
	var want []api.Pair
	for _, k := range keys {
		want = append(want, api.Pair{Key: k, Val: list[k]})
	}
	if l, e := btree.All(s, root, 0); !slices.Equal(l, want) || e != api.OK {
		t.Errorf("All: %v, errno %d; want %v", l, e, want)
	}
	should(t, "Check", btree.Check(s, root, kind), api.OK)
	if l, e := btree.Nodes(s, root); !slices.Equal(l, nodes(t, s, root)) || e != api.OK {
		t.Errorf("Nodes: %v, errno %d", l, e)
	}
	if (root == 0) != (len(keys) == 0) {
		t.Errorf("the root %d of %d keys", root, len(keys))
	}
	for i, k := range keys {
		has(t, s, root, k, list[k], true)
		if k > 0 && (i == 0 || keys[i-1] != k-1) {
			has(t, s, root, k-1, 0, false)
		}
		if l, e := btree.All(s, root, k); !slices.Equal(l, want[i:]) || e != api.OK {
			t.Errorf("All(%d): %v, errno %d; want %v", k, l, e, want[i:])
		}
	}
}

// orders are keys in many orders.
func orders(many int) map[string][]uint64 {
	rising := row(1, uint64(many), 1)
	falling := slices.Clone(rising)
	slices.Reverse(falling)
	var turns, evens, middle []uint64
	for i := range many {
		if i%2 == 0 {
			turns = append(turns, rising[i/2])
			evens = append(evens, rising[i])
			middle = append(middle, rising[(many-1)/2-i/2])
		} else {
			turns = append(turns, falling[i/2])
			middle = append(middle, rising[(many-1)/2+(i+1)/2])
		}
	}
	for i := 1; i < many; i += 2 {
		evens = append(evens, rising[i])
	}
	all := map[string][]uint64{"rising": rising, "falling": falling, "from both ends": turns, "every other one": evens, "from the middle": middle}
	for seed := range 4 {
		chance := slices.Clone(rising)
		rand.New(rand.NewSource(int64(seed))).Shuffle(many, func(i, j int) { chance[i], chance[j] = chance[j], chance[i] })
		all[fmt.Sprintf("by chance %d", seed)] = chance
	}
	return all
}

// Keys that are put in each order, and let go in each, with a look at all behind each step: of trees of three and four levels, fresh ones, and ones that are committed now and then.
func TestOrders(t *testing.T) {
	const many = 90
	for in, puts := range orders(many) {
		for out, deletes := range orders(many) {
			_, s := begin(t, 160, 8)
			free, _ := s.Room()
			var w words
			root, list := uint32(0), map[uint64]uint64{}
			step := func(i int) {
				t.Helper()
				shaped(t, s, root, w.root.text())
				if i%9 == 0 {
					shows(t, s, root, api.NodeTop, list)
				}
				if m, _ := s.Room(); in > out && m != free-len(nodes(t, s, root)) {
					t.Errorf("%d blocks are free; want %d", m, free-len(nodes(t, s, root)))
				}
				if in <= out && i%7 == 0 {
					commit(t, s, root)
				}
			}
			for i, key := range puts {
				root = top(t, s, root, key)
				w.put(key)
				list[key] = small(key)
				step(i)
			}
			for i, key := range deletes {
				root = take(t, s, root, key)
				w.delete(key)
				delete(list, key)
				step(i)
			}
			if commit(t, s, 0); root != 0 {
				t.Errorf("%s, %s: the root %d", in, out, root)
			}
			if m, _ := s.Room(); m != free {
				t.Errorf("%s, %s: %d blocks are free; want %d", in, out, m, free)
			}
			if t.Failed() {
				t.Fatalf("put %s, let go %s", in, out)
			}
		}
	}
}

// held is a tree of a world: its root, which the world names once, and what it has.
type held struct {
	kind api.NodeKind
	root uint32
	list map[uint64]uint64
}

// world is a store with trees in it, maps and top trees, and a plain list of what each has. Map trees name data blocks, top trees other maps.
type world struct {
	t          testing.TB
	s          *store.Store
	trees      []held
	committed  []held
	meta, data int // free blocks at the beginning
	next       func(n int) int
	full, done int
}

func newWorld(t testing.TB, meta, data int, next func(n int) int) *world {
	_, s := begin(t, meta, data)
	w := &world{t: t, s: s, next: next}
	w.meta, w.data = s.Room()
	for i := range 4 {
		w.trees = append(w.trees, held{kind: api.NodeMap + api.NodeKind(i%2), list: map[uint64]uint64{}})
	}
	w.committed = w.kept()
	return w
}

// kept is the world's trees as they are now.
func (w *world) kept() []held {
	var l []held
	for _, x := range w.trees {
		x.list = maps.Clone(x.list)
		l = append(l, x)
	}
	return l
}

// value is a new value for a tree, with a name that is the caller's.
func (w *world) value(kind api.NodeKind) (uint64, api.Errno) {
	if kind == api.NodeMap {
		n, e := w.s.NewData(api.Block{byte(w.next(256))})
		return uint64(n), e
	}
	root := w.trees[2*w.next(len(w.trees)/2)].root
	return uint64(root)<<32 + uint64(w.next(256)), w.s.Hold(root)
}

// drop drops a value's name, which is the caller's.
func (w *world) drop(kind api.NodeKind, val uint64) {
	w.t.Helper()
	if kind == api.NodeMap {
		must(w.t, w.s.DropData(uint32(val)))
	} else {
		must(w.t, w.s.Drop(uint32(val>>32)))
	}
}

func (w *world) key() uint64 {
	k := uint64(w.next(256))
	switch k {
	case 255:
		return most
	case 254:
		return most - 1
	}
	return k
}

// put puts a key into a tree; without room nothing is changed.
func (w *world) put(x *held) {
	w.t.Helper()
	key := w.key()
	val, e := w.value(x.kind)
	if e == api.ErrFull {
		w.full++
		return
	}
	must(w.t, e)
	was := looksOf(w.s)
	root, old, had, e := btree.Put(w.s, x.root, x.kind, key, val)
	if e == api.ErrFull {
		w.full++
		sameLooks(w.t, "Put without room", w.s, was)
		w.drop(x.kind, val)
		return
	}
	must(w.t, e)
	if v, is := x.list[key]; v != old || is != had {
		w.t.Errorf("Put(%d): %d, %v; want %d, %v", key, old, had, v, is)
	}
	if had {
		w.drop(x.kind, old)
	}
	x.root, x.list[key] = root, val
	w.done++
}

// let lets a key go of a tree.
func (w *world) let(x *held) {
	w.t.Helper()
	key := w.key()
	if keys := slices.Sorted(maps.Keys(x.list)); len(keys) > 0 && w.next(3) > 0 {
		key = keys[w.next(len(keys))]
	}
	was := looksOf(w.s)
	root, old, had, e := btree.Delete(w.s, x.root, key)
	v, is := x.list[key]
	if e == api.ErrFull && is {
		w.full++
		sameLooks(w.t, "Delete without room", w.s, was)
		return
	}
	must(w.t, e)
	if v != old || is != had || !is && root != x.root {
		w.t.Errorf("Delete(%d): %d, %d, %v; want %d, %v", key, root, old, had, v, is)
	}
	if had {
		w.drop(x.kind, old)
		w.done++
	} else {
		sameLooks(w.t, "Delete of what is not there", w.s, was)
	}
	delete(x.list, key)
	x.root = root
}

// act does something to the world.
func (w *world) act() {
	w.t.Helper()
	x := &w.trees[w.next(len(w.trees))]
	switch w.next(16) {
	case 0, 1, 2, 3, 4, 5, 6:
		w.put(x)
	case 7, 8, 9, 10, 11:
		w.let(x)
	case 12: // A snapshot of one of its kind.
		y := w.trees[(w.next(len(w.trees)/2)*2+int(x.kind-api.NodeMap))%len(w.trees)]
		if w.s.Count(y.root) == 65535 || y.root == x.root {
			return
		}
		must(w.t, w.s.Hold(y.root))
		must(w.t, w.s.Drop(x.root))
		x.root, x.list = y.root, maps.Clone(y.list)
	case 13:
		if w.next(4) == 0 {
			must(w.t, w.s.Drop(x.root))
			x.root, x.list = 0, map[uint64]uint64{}
		}
	case 14:
		if e := w.s.Commit(api.Super{Top: w.trees[1].root}); e == api.ErrFull {
			w.trees = w.committed
		} else {
			must(w.t, e)
		}
		w.committed = w.kept()
	case 15:
		if w.next(4) == 0 {
			w.s.Abort()
			w.trees = w.committed
			w.committed = w.kept()
		}
	}
}

// counted holds how often each block is named against what names it: the trees' holders, and what can be reached of them.
func (w *world) counted() {
	w.t.Helper()
	x := w.s.Super()
	meta, data := make([]int, x.Meta), make([]int, x.Data)
	meta[0]++
	for _, n := range x.Pages {
		if n != 0 {
			meta[n]++
		}
	}
	var reach func(n uint32)
	reach = func(n uint32) {
		if n == 0 {
			return
		}
		meta[n]++
		if meta[n] > 1 {
			return
		}
		y, e := w.s.Node(n)
		must(w.t, e)
		for _, v := range y.Vals {
			switch y.Kind {
			case api.NodeInner:
				reach(uint32(v))
			case api.NodeMap:
				data[v]++
			case api.NodeTop:
				reach(uint32(v >> 32))
			}
		}
	}
	for _, x := range w.trees {
		reach(x.root)
	}
	for n, want := range meta {
		if got := int(w.s.Count(uint32(n))); got != want {
			w.t.Errorf("block %d is named %d times; want %d", n, got, want)
		}
	}
	for n, want := range data {
		if got := int(w.s.DataCount(uint32(n))); got != want {
			w.t.Errorf("data block %d is named %d times; want %d", n, got, want)
		}
	}
}

// check holds all trees against what they have.
func (w *world) check() {
	w.t.Helper()
	for _, x := range w.trees {
		shows(w.t, w.s, x.root, x.kind, x.list)
	}
	w.counted()
}

// end drops all: all blocks are free again behind a commit.
func (w *world) end() {
	w.t.Helper()
	for _, x := range w.trees {
		must(w.t, w.s.Drop(x.root))
	}
	w.trees = nil
	w.counted()
	if e := w.s.Commit(api.Super{}); e == api.ErrFull {
		w.s.Abort()
		return
	}
	commit(w.t, w.s, 0)
	if m, d := w.s.Room(); m != w.meta || d != w.data {
		w.t.Errorf("%d and %d blocks are free; want %d and %d", m, d, w.meta, w.data)
	}
}

// P9.3: whatever is done, trees that share nodes show what they had, are sound, and name just what they name; when all are dropped, nothing is named.
func TestTreesThatShare(t *testing.T) {
	full, done := 0, 0
	for seed := range 60 {
		r := rand.New(rand.NewSource(int64(seed)))
		w := newWorld(t, []int{16, 24, 40, 80, 240}[seed%5], []int{24, 480}[seed%2], r.Intn)
		for range 300 {
			w.act()
			w.counted()
			if r.Intn(10) == 0 {
				w.check()
			}
			if t.Failed() {
				t.Fatalf("seed %d", seed)
			}
		}
		w.check()
		w.end()
		full, done = full+w.full, done+w.done
	}
	if full < 100 || done < 3000 {
		t.Errorf("only %d acts without room, %d with it", full, done)
	}
}

// FuzzBTree does what bytes tell.
func FuzzBTree(f *testing.F) {
	f.Add(uint8(0), []byte{1, 2, 3})
	f.Add(uint8(30), []byte("some keys are put, and some are let go; some trees are held, and some are dropped"))
	f.Fuzz(func(t *testing.T, meta uint8, l []byte) {
		l = l[:min(len(l), 2000)]
		at := 0
		w := newWorld(t, 16+int(meta)%225, 60, func(n int) int {
			if at == len(l) {
				return 0
			}
			at++
			return int(l[at-1]) % n
		})
		for at < len(l) {
			w.act()
			w.counted()
		}
		w.check()
		w.end()
	})
}
