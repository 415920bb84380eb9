package diff_test

import (
	"cmp"
	"maps"
	"math"
	"reflect"
	"slices"
	"testing"

	"voile/api"
	"voile/block"
	"voile/btree"
	"voile/diff"
	"voile/disk"
	"voile/store"
	"voile/super"
)

const most = math.MaxUint64

func must(t testing.TB, e api.Errno) {
	t.Helper()
	if e != api.OK {
		t.Fatalf("errno %d", e)
	}
}

func should(t testing.TB, what string, got, want api.Errno) {
	t.Helper()
	if got != want {
		t.Errorf("%s: errno %d; want %d", what, got, want)
	}
}

// begin is a store of areas so great, with nothing in it.
func begin(t testing.TB, meta, data int) (*disk.Disk, *store.Store) {
	t.Helper()
	d, e := disk.New(4 * super.Blocks(meta, data))
	must(t, e)
	must(t, store.Format(d, meta, data))
	return d, open(t, d)
}

func open(t testing.TB, d *disk.Disk) *store.Store {
	t.Helper()
	s, e := store.Open(d)
	must(t, e)
	return s
}

// kill burns a disk's fuse.
func kill(t testing.TB, d *disk.Disk) {
	t.Helper()
	must(t, d.Fuse(0))
	should(t, "a dead disk's Flush", d.Flush(), api.ErrDead)
}

// spoil lets a metadata block be no node's any more.
func spoil(t testing.TB, d *disk.Disk, no uint32) {
	t.Helper()
	must(t, super.Write(d, 2+int(no), api.Block{1, 2, 3}))
}

// list is a tree as a plain list: its keys with their values.
type list map[uint64]uint64

// small is a value of a key in a top tree: it names nothing.
func small(key uint64) uint64 { return key*7%1000 + 1 }

// listed is a list of these keys.
func listed(keys ...uint64) list {
	l := list{}
	for _, k := range keys {
		l[k] = small(k)
	}
	return l
}

// row is the keys from one up to another, each so far from the last.
func row(from, to, step uint64) []uint64 {
	var l []uint64
	for k := from; k <= to; k += step {
		l = append(l, k)
	}
	return l
}

// with puts a key with a value into a top tree, and tells its new root.
func with(t testing.TB, s *store.Store, root uint32, key, val uint64) uint32 {
	t.Helper()
	root, _, _, e := btree.Put(s, root, api.NodeTop, key, val)
	must(t, e)
	return root
}

// without deletes a key that is there, and tells the new root.
func without(t testing.TB, s *store.Store, root uint32, key uint64) uint32 {
	t.Helper()
	root, _, is, e := btree.Delete(s, root, key)
	must(t, e)
	if !is {
		t.Fatalf("Delete(%d): it is not there", key)
	}
	return root
}

// tops is a top tree of these keys, put in this order.
func tops(t testing.TB, s *store.Store, keys ...uint64) uint32 {
	t.Helper()
	root := uint32(0)
	for _, k := range keys {
		root = with(t, s, root, k, small(k))
	}
	return root
}

// hold holds a root, so that what is changed from now on is another tree.
func hold(t testing.TB, s *store.Store, root uint32) uint32 {
	t.Helper()
	must(t, s.Hold(root))
	return root
}

func commit(t testing.TB, s *store.Store, old, new uint32) {
	t.Helper()
	must(t, s.Commit(api.Super{Top: new, Base: old}))
}

func add(t testing.TB, s *store.Store, x api.Node) uint32 {
	t.Helper()
	n, e := s.New(x)
	must(t, e)
	return n
}

// leaf makes a top leaf of these keys.
func leaf(t testing.TB, s *store.Store, keys ...uint64) uint32 {
	t.Helper()
	x := api.Node{Kind: api.NodeTop, Keys: keys}
	for _, k := range keys {
		x.Vals = append(x.Vals, small(k))
	}
	return add(t, s, x)
}

// inner makes an inner node of these keys, over nodes.
func inner(t testing.TB, s *store.Store, keys []uint64, under ...uint32) uint32 {
	t.Helper()
	x := api.Node{Kind: api.NodeInner, Keys: keys}
	for _, n := range under {
		x.Vals = append(x.Vals, uint64(n))
	}
	return add(t, s, x)
}

// nodes are the numbers of a tree's nodes, as they are read one by one.
func nodes(t testing.TB, s *store.Store, root uint32) []uint32 {
	t.Helper()
	if root == 0 {
		return nil
	}
	x, e := s.Node(root)
	must(t, e)
	l := []uint32{root}
	if x.Kind == api.NodeInner {
		for _, v := range x.Vals {
			l = append(l, nodes(t, s, uint32(v))...)
		}
	}
	return l
}

// levels is how many levels a tree has.
func levels(t testing.TB, s *store.Store, root uint32) int {
	t.Helper()
	if root == 0 {
		return 0
	}
	x, e := s.Node(root)
	must(t, e)
	if x.Kind != api.NodeInner {
		return 1
	}
	return 1 + levels(t, s, uint32(x.Vals[0]))
}

// plain is the difference of two plain lists.
func plain(old, new list) []api.Change {
	both := list{}
	maps.Copy(both, old)
	maps.Copy(both, new)
	var l []api.Change
	for k := range both {
		v, had := old[k]
		w, has := new[k]
		if v != w || had != has {
			l = append(l, api.Change{Key: k, Old: v, New: w, Had: had, Has: has})
		}
	}
	slices.SortFunc(l, func(a, b api.Change) int { return cmp.Compare(a.Key, b.Key) })
	return l
}

// turned is a difference turned about.
func turned(l []api.Change) []api.Change {
	var r []api.Change
	for _, c := range l {
		r = append(r, api.Change{Key: c.Key, Old: c.New, New: c.Old, Had: c.Has, Has: c.Had})
	}
	return r
}

// apart are those of the one's numbers that the other one has not, rising.
func apart(one, other []uint32) []uint32 {
	var l []uint32
	for _, n := range one {
		if !slices.Contains(other, n) {
			l = append(l, n)
		}
	}
	slices.Sort(l)
	return l
}

// differs holds all that is told of two trees against two plain lists, both ways round, and of each beside itself.
func differs(t testing.TB, s *store.Store, old, new uint32, had, has list) {
	t.Helper()
	want := plain(had, has)
	told(t, s, old, new, want)
	told(t, s, new, old, turned(want))
	told(t, s, old, old, nil)
	told(t, s, new, new, nil)
	told(t, s, 0, new, plain(nil, has))
	told(t, s, old, 0, plain(had, nil))
}

// told holds what Of, Walk and Only tell.
func told(t testing.TB, s *store.Store, old, new uint32, want []api.Change) {
	t.Helper()
	if l, e := diff.Of(s, old, new); !slices.Equal(l, want) || e != api.OK {
		t.Errorf("Of(%d, %d): %v, errno %d; want %v", old, new, l, e, want)
	}
	if l := slices.Collect(diff.Walk(s, old, new)); !slices.Equal(l, want) {
		t.Errorf("Walk(%d, %d): %v; want %v", old, new, l, want)
	}
	a, b := nodes(t, s, old), nodes(t, s, new)
	only(t, s, old, new, apart(a, b), apart(b, a))
}

// only holds what Only tells.
func only(t testing.TB, s *store.Store, old, new uint32, a, b []uint32) {
	t.Helper()
	if l, r, e := diff.Only(s, old, new); !slices.Equal(l, a) || !slices.Equal(r, b) || e != api.OK {
		t.Errorf("Only(%d, %d): %v, %v, errno %d; want %v, %v", old, new, l, r, e, a, b)
	}
}

// refused holds that each call is refused with an error, with nothing beside it.
func refused(t testing.TB, s *store.Store, what string, old, new uint32, want api.Errno) {
	t.Helper()
	if l, e := diff.Of(s, old, new); l != nil || e != want {
		t.Errorf("%s: Of(%d, %d): %v, errno %d; want errno %d alone", what, old, new, l, e, want)
	}
	for c := range diff.Walk(s, old, new) {
		t.Errorf("%s: Walk(%d, %d) goes over %v", what, old, new, c)
	}
	if l, r, e := diff.Only(s, old, new); l != nil || r != nil || e != want {
		t.Errorf("%s: Only(%d, %d): %v, %v, errno %d; want errno %d alone", what, old, new, l, r, e, want)
	}
}

// looks is all that a store tells of itself.
type looks struct {
	Super      api.Super
	Meta, Data int
	Counts     []uint16
	Datas      []uint16
	Fresh      int
	Nodes      []api.Node
	Errors     []api.Errno
	Broken     bool
}

func looksOf(s *store.Store) looks {
	l := looks{Super: s.Super(), Fresh: s.Fresh(), Broken: s.Broken()}
	l.Meta, l.Data = s.Room()
	for n := range uint32(l.Super.Meta) {
		l.Counts = append(l.Counts, s.Count(n))
		x, e := s.Node(n)
		l.Nodes, l.Errors = append(l.Nodes, block.Copy(x)), append(l.Errors, e)
	}
	for n := range uint32(l.Super.Data) {
		l.Datas = append(l.Datas, s.DataCount(n))
	}
	return l
}

// unchanged does what should change nothing that a store tells of itself, nor its disk.
func unchanged(t testing.TB, d *disk.Disk, s *store.Store, what string, do func()) {
	t.Helper()
	was, before := looksOf(s), d.Copy()
	do()
	if now := looksOf(s); !reflect.DeepEqual(now, was) {
		t.Errorf("%s: changed\n%+v\nto\n%+v", what, was, now)
	}
	if !d.Same(before) || !slices.Equal(d.Open(), before.Open()) {
		t.Errorf("%s: the disk is changed", what)
	}
}
