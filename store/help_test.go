package store_test

import (
	"reflect"
	"slices"
	"testing"

	"voile/api"
	"voile/block"
	"voile/disk"
	"voile/store"
	"voile/super"
)

func must(t testing.TB, e api.Errno) {
	t.Helper()
	if e != api.OK {
		t.Fatalf("errno %d", e)
	}
}

func should(t testing.TB, what string, got, want api.Errno) {
	t.Helper()
	if got != want {
		t.Errorf("%s: errno %d; want %d", what, got, want)
	}
}

// newDisk is a disk of so many sectors, all noughts.
func newDisk(t testing.TB, sectors int) *disk.Disk {
	t.Helper()
	d, e := disk.New(sectors)
	must(t, e)
	return d
}

// format is a disk with such areas, and so many blocks besides.
func format(t testing.TB, meta, data, more int) *disk.Disk {
	t.Helper()
	d := newDisk(t, 4*(2+meta+data+more))
	must(t, store.Format(d, meta, data))
	return d
}

func open(t testing.TB, d *disk.Disk) *store.Store {
	t.Helper()
	s, e := store.Open(d)
	must(t, e)
	if s == nil {
		t.Fatal("no store")
	}
	return s
}

func refuseOpen(t testing.TB, d *disk.Disk, want api.Errno, why string) {
	t.Helper()
	before := d.Copy()
	if s, e := store.Open(d); e != want || s != nil {
		t.Errorf("%s: Open: %v, errno %d; want errno %d alone", why, s, e, want)
	}
	if !same(d, before) {
		t.Errorf("%s: Open changed the disk", why)
	}
}

// small is a store of 16 metadata blocks, of which those from 3 on are free, and of 8 data blocks.
func small(t testing.TB) (*disk.Disk, *store.Store) {
	t.Helper()
	d := format(t, 16, 8, 0)
	return d, open(t, d)
}

// same: has a disk the same, lasting and read, open sectors among them, and is it dead as the other one is?
func same(a, b *disk.Disk) bool {
	return a.Same(b) && slices.Equal(a.Open(), b.Open()) && a.Dead() == b.Dead()
}

func read(t testing.TB, d *disk.Disk, n int) api.Block {
	t.Helper()
	b, e := super.Read(d, n)
	must(t, e)
	return b
}

// lay puts a block on a disk, for good.
func lay(t testing.TB, d *disk.Disk, n int, b api.Block) {
	t.Helper()
	must(t, super.Write(d, n, b))
	must(t, d.Flush())
}

// kill burns a disk's fuse.
func kill(t testing.TB, d *disk.Disk) {
	t.Helper()
	must(t, d.Fuse(0))
	should(t, "a dead disk's Flush", d.Flush(), api.ErrDead)
}

// leaf is a map's leaf that names data blocks.
func leaf(data ...uint64) api.Node { return nodeOf(api.NodeMap, data...) }

func inner(nodes ...uint64) api.Node { return nodeOf(api.NodeInner, nodes...) }

// top is a top leaf of volumes with these maps; each has a size, too.
func top(nodes ...uint64) api.Node {
	x := nodeOf(api.NodeTop)
	for i, n := range nodes {
		x.Keys = append(x.Keys, uint64(i+1))
		x.Vals = append(x.Vals, n<<32+uint64(7*i))
	}
	return x
}

func nodeOf(kind api.NodeKind, vals ...uint64) api.Node {
	x := api.Node{Kind: kind, Birth: 77}
	for i, v := range vals {
		x.Keys = append(x.Keys, uint64(10*i))
		x.Vals = append(x.Vals, v)
	}
	return x
}

func born(x api.Node, birth uint64) api.Node {
	x = block.Copy(x)
	x.Birth = birth
	return x
}

func add(t testing.TB, s *store.Store, x api.Node) uint32 {
	t.Helper()
	n, e := s.New(x)
	must(t, e)
	return n
}

func addData(t testing.TB, s *store.Store, b api.Block) uint32 {
	t.Helper()
	n, e := s.NewData(b)
	must(t, e)
	return n
}

func commit(t testing.TB, s *store.Store, root uint32) {
	t.Helper()
	must(t, s.Commit(api.Super{Top: root}))
}

// shows: is a node what it should be?
func shows(t testing.TB, s *store.Store, n uint32, want api.Node) {
	t.Helper()
	if x, e := s.Node(n); e != api.OK || !block.Same(x, want) {
		t.Errorf("node %d: %v, errno %d; want %v", n, x, e, want)
	}
}

// counts holds how often metadata blocks are named, from the first one on, against what it should be.
func counts(t testing.TB, s *store.Store, first uint32, want ...uint16) {
	t.Helper()
	for i, w := range want {
		if n := s.Count(first + uint32(i)); n != w {
			t.Errorf("block %d is named %d times; want %d", first+uint32(i), n, w)
		}
	}
}

func dataCounts(t testing.TB, s *store.Store, want ...uint16) {
	t.Helper()
	for i, w := range want {
		if n := s.DataCount(uint32(i)); n != w {
			t.Errorf("data block %d is named %d times; want %d", i, n, w)
		}
	}
}

func room(t testing.TB, s *store.Store, meta, data int) {
	t.Helper()
	if m, d := s.Room(); m != meta || d != data {
		t.Errorf("room %d, %d; want %d, %d", m, d, meta, data)
	}
}

// unchanged does what should change nothing a store tells of itself, nor its disk.
func unchanged(t testing.TB, d *disk.Disk, s *store.Store, what string, do func()) {
	t.Helper()
	was, before := looksOf(s), d.Copy()
	do()
	if now := looksOf(s); !reflect.DeepEqual(now, was) {
		t.Errorf("%s: changed\n%+v\nto\n%+v", what, was, now)
	}
	if !same(d, before) {
		t.Errorf("%s: the disk is changed", what)
	}
}
