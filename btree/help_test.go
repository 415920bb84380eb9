package btree_test

import (
	"reflect"
	"slices"
	"strconv"
	"strings"
	"testing"

	"voile/api"
	"voile/block"
	"voile/btree"
	"voile/disk"
	"voile/store"
	"voile/super"
)

func must(t testing.TB, e api.Errno) {
	t.Helper()
	if e != api.OK {
		t.Fatalf("errno %d", e)
	}
}

func should(t testing.TB, what string, got, want api.Errno) {
	t.Helper()
	if got != want {
		t.Errorf("%s: errno %d; want %d", what, got, want)
	}
}

// begin is a store of areas so great, with nothing in it.
func begin(t testing.TB, meta, data int) (*disk.Disk, *store.Store) {
	t.Helper()
	d, e := disk.New(4 * super.Blocks(meta, data))
	must(t, e)
	must(t, store.Format(d, meta, data))
	return d, open(t, d)
}

func open(t testing.TB, d *disk.Disk) *store.Store {
	t.Helper()
	s, e := store.Open(d)
	must(t, e)
	return s
}

// kill burns a disk's fuse.
func kill(t testing.TB, d *disk.Disk) {
	t.Helper()
	must(t, d.Fuse(0))
	should(t, "a dead disk's Flush", d.Flush(), api.ErrDead)
}

// spoil lets a metadata block be no node's any more.
func spoil(t testing.TB, d *disk.Disk, no uint32) {
	t.Helper()
	must(t, super.Write(d, 2+int(no), api.Block{1, 2, 3}))
}

// top puts a key into a top tree, with a value that names nothing, and tells its new root.
func top(t testing.TB, s *store.Store, root uint32, key uint64) uint32 {
	t.Helper()
	root, _, _, e := btree.Put(s, root, api.NodeTop, key, small(key))
	must(t, e)
	return root
}

// tops is a top tree of these keys, put in this order.
func tops(t testing.TB, s *store.Store, keys ...uint64) uint32 {
	t.Helper()
	root := uint32(0)
	for _, key := range keys {
		root = top(t, s, root, key)
	}
	return root
}

// small is a value of a key in a top tree: it names nothing.
func small(key uint64) uint64 { return key*7%1000 + 1 }

// take deletes a key that is there, and tells the new root.
func take(t testing.TB, s *store.Store, root uint32, key uint64) uint32 {
	t.Helper()
	root, _, is, e := btree.Delete(s, root, key)
	must(t, e)
	if !is {
		t.Fatalf("Delete(%d): it is not there", key)
	}
	return root
}

// row is the keys from one up to another, each so far from the last.
func row(from, to, step uint64) []uint64 {
	var l []uint64
	for k := from; k <= to; k += step {
		l = append(l, k)
	}
	return l
}

func commit(t testing.TB, s *store.Store, root uint32) {
	t.Helper()
	must(t, s.Commit(api.Super{Top: root}))
}

// limb is a tree to be hung up by hand: its node's kind, its keys, the values of a leaf, or the trees under it.
type limb struct {
	kind  api.NodeKind
	keys  []uint64
	under []limb
}

// leaf is a top leaf of these keys.
func leaf(keys ...uint64) limb { return limb{kind: api.NodeTop, keys: keys} }

// inner is an inner node with limbs under it, by these keys.
func inner(keys []uint64, under ...limb) limb { return limb{api.NodeInner, keys, under} }

// joined is an inner node with limbs under it, by their own first keys.
func joined(under ...limb) limb {
	x := limb{kind: api.NodeInner, under: under}
	for _, u := range under {
		x.keys = append(x.keys, u.keys[0])
	}
	return x
}

// hang makes a tree's nodes, and tells its root.
func hang(t testing.TB, s *store.Store, x limb) uint32 {
	t.Helper()
	n := api.Node{Kind: x.kind, Keys: x.keys}
	for _, k := range x.keys {
		n.Vals = append(n.Vals, small(k))
	}
	for i, u := range x.under {
		n.Vals[i] = uint64(hang(t, s, u))
	}
	return add(t, s, n)
}

func add(t testing.TB, s *store.Store, x api.Node) uint32 {
	t.Helper()
	n, e := s.New(x)
	must(t, e)
	return n
}

// shape is a tree as a text: of a leaf its keys, of an inner node what stands under it, each behind its key and a colon.
func shape(t testing.TB, s *store.Store, root uint32) string {
	t.Helper()
	if root == 0 {
		return "-"
	}
	x, e := s.Node(root)
	must(t, e)
	var l []string
	for i, k := range x.Keys {
		text := strconv.FormatUint(k, 10)
		if x.Kind == api.NodeInner {
			text += ":" + shape(t, s, uint32(x.Vals[i]))
		}
		l = append(l, text)
	}
	return "(" + strings.Join(l, " ") + ")"
}

func shaped(t testing.TB, s *store.Store, root uint32, want string) {
	t.Helper()
	if got := shape(t, s, root); got != want {
		t.Errorf("the tree is %s; want %s", got, want)
	}
}

// nodes are the numbers of a tree's nodes, as they are read one by one.
func nodes(t testing.TB, s *store.Store, root uint32) []uint32 {
	t.Helper()
	if root == 0 {
		return nil
	}
	x, e := s.Node(root)
	must(t, e)
	l := []uint32{root}
	if x.Kind == api.NodeInner {
		for _, v := range x.Vals {
			l = append(l, nodes(t, s, uint32(v))...)
		}
	}
	return l
}

// looks is all that a store tells of itself.
type looks struct {
	Super      api.Super
	Meta, Data int
	Counts     []uint16
	Datas      []uint16
	Fresh      int
	Nodes      []api.Node
	Errors     []api.Errno
	Broken     bool
}

func looksOf(s *store.Store) looks {
	l := looks{Super: s.Super(), Fresh: s.Fresh(), Broken: s.Broken()}
	l.Meta, l.Data = s.Room()
	for n := range uint32(l.Super.Meta) {
		l.Counts = append(l.Counts, s.Count(n))
		x, e := s.Node(n)
		l.Nodes, l.Errors = append(l.Nodes, block.Copy(x)), append(l.Errors, e)
	}
	for n := range uint32(l.Super.Data) {
		l.Datas = append(l.Datas, s.DataCount(n))
	}
	return l
}

// unchanged does what should change nothing that a store tells of itself, nor its disk, nor which block comes next.
func unchanged(t testing.TB, d *disk.Disk, s *store.Store, what string, do func()) {
	t.Helper()
	was, before := looksOf(s), d.Copy()
	do()
	if now := looksOf(s); !reflect.DeepEqual(now, was) {
		t.Errorf("%s: changed\n%+v\nto\n%+v", what, was, now)
	}
	if !d.Same(before) || !slices.Equal(d.Open(), before.Open()) {
		t.Errorf("%s: the disk is changed", what)
	}
}

// refusedPut holds that a Put is refused, with nothing beside the error, and has changed nothing.
func refusedPut(t testing.TB, d *disk.Disk, s *store.Store, what string, root uint32, kind api.NodeKind, key uint64, want api.Errno) {
	t.Helper()
	unchanged(t, d, s, what, func() {
		if r, v, is, e := btree.Put(s, root, kind, key, 9); r != 0 || v != 0 || is || e != want {
			t.Errorf("%s: Put: %d, %d, %v, errno %d; want errno %d alone", what, r, v, is, e, want)
		}
	})
}

func refusedDelete(t testing.TB, d *disk.Disk, s *store.Store, what string, root uint32, key uint64, want api.Errno) {
	t.Helper()
	unchanged(t, d, s, what, func() {
		if r, v, is, e := btree.Delete(s, root, key); r != 0 || v != 0 || is || e != want {
			t.Errorf("%s: Delete: %d, %d, %v, errno %d; want errno %d alone", what, r, v, is, e, want)
		}
	})
}

// refusedLooks holds that all looks of a tree are refused.
func refusedLooks(t testing.TB, d *disk.Disk, s *store.Store, what string, root uint32, key uint64, get, all, check api.Errno) {
	t.Helper()
	unchanged(t, d, s, what, func() {
		if v, is, e := btree.Get(s, root, key); v != 0 || is || e != get {
			t.Errorf("%s: Get: %d, %v, errno %d; want errno %d alone", what, v, is, e, get)
		}
		if l, e := btree.All(s, root, 0); l != nil || e != all {
			t.Errorf("%s: All: %v, errno %d; want errno %d alone", what, l, e, all)
		}
		if l, e := btree.Nodes(s, root); l != nil || e != all {
			t.Errorf("%s: Nodes: %v, errno %d; want errno %d alone", what, l, e, all)
		}
		should(t, what+": Check", btree.Check(s, root, api.NodeTop), check)
	})
}

// sameLooks holds what a store tells of itself against what it told.
func sameLooks(t testing.TB, what string, s *store.Store, was looks) {
	t.Helper()
	if now := looksOf(s); !reflect.DeepEqual(now, was) {
		t.Errorf("%s: changed\n%+v\nto\n%+v", what, was, now)
	}
}
