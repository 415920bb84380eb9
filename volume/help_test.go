package volume_test

import (
	"maps"
	"math"
	"reflect"
	"slices"
	"testing"

	"voile/api"
	"voile/block"
	"voile/btree"
	"voile/disk"
	"voile/store"
	"voile/super"
	"voile/volume"
)

const (
	mostVolume = math.MaxUint32
	most       = math.MaxUint64
)

func must(t testing.TB, e api.Errno) {
	t.Helper()
	if e != api.OK {
		t.Fatalf("errno %d", e)
	}
}

func should(t testing.TB, what string, got, want api.Errno) {
	t.Helper()
	if got != want {
		t.Errorf("%s: errno %d; want %d", what, got, want)
	}
}

// begin is a store of areas so great, with nothing in it.
func begin(t testing.TB, meta, data int) (*disk.Disk, *store.Store) {
	t.Helper()
	d, e := disk.New(4 * super.Blocks(meta, data))
	must(t, e)
	must(t, store.Format(d, meta, data))
	return d, open(t, d)
}

func open(t testing.TB, d *disk.Disk) *store.Store {
	t.Helper()
	s, e := store.Open(d)
	must(t, e)
	return s
}

// kill burns a disk's fuse.
func kill(t testing.TB, d *disk.Disk) {
	t.Helper()
	must(t, d.Fuse(0))
	should(t, "a dead disk's Flush", d.Flush(), api.ErrDead)
}

// spoil lets a metadata block be no node's any more.
func spoil(t testing.TB, d *disk.Disk, no uint32) {
	t.Helper()
	must(t, super.Write(d, 2+int(no), api.Block{1, 2, 3}))
}

// mapped is what stands for a block: a data block, and what that says.
type mapped struct {
	data uint32
	id   int
}

// plain is a volume, plainly.
type plain struct {
	size   int
	blocks map[int]mapped
}

// table is a top tree, plainly: its volumes by their numbers.
type table map[uint64]plain

// copied is a table that goes on apart.
func (l table) copied() table {
	c := table{}
	for n, v := range l {
		c[n] = plain{v.size, maps.Clone(v.blocks)}
	}
	return c
}

// told is a data block that says what no other one says.
func told(id int) api.Block {
	return api.Block{77, byte(id), byte(id >> 8), 255: byte(id)}
}

// pool is a store with a top tree, and what that shows, plainly.
type pool struct {
	t    testing.TB
	d    *disk.Disk
	s    *store.Store
	top  uint32
	list table
	id   int
}

func newPool(t testing.TB, meta, data int) *pool {
	t.Helper()
	p := &pool{t: t, list: table{}}
	p.d, p.s = begin(t, meta, data)
	return p
}

func (p *pool) create(v uint64, size int) {
	p.t.Helper()
	top, e := volume.Create(p.s, p.top, v, size)
	must(p.t, e)
	p.top, p.list[v] = top, plain{size, map[int]mapped{}}
}

func (p *pool) delete(v uint64) {
	p.t.Helper()
	top, e := volume.Delete(p.s, p.top, v)
	must(p.t, e)
	p.top = top
	delete(p.list, v)
}

func (p *pool) resize(v uint64, size int) {
	p.t.Helper()
	top, e := volume.Resize(p.s, p.top, v, size)
	must(p.t, e)
	p.top = top
	p.list.resize(v, size)
}

// resize gives a volume of a table another size.
func (l table) resize(v uint64, size int) {
	maps.DeleteFunc(l[v].blocks, func(b int, _ mapped) bool { return b >= size })
	l[v] = plain{size, l[v].blocks}
}

func (p *pool) snap(v, to uint64) {
	p.t.Helper()
	top, e := volume.Snap(p.s, p.top, v, to)
	must(p.t, e)
	p.top = top
	p.list[to] = plain{p.list[v].size, maps.Clone(p.list[v].blocks)}
}

// data makes a data block, that says what no other one says.
func (p *pool) data() mapped {
	p.t.Helper()
	p.id++
	n, e := p.s.NewData(told(p.id))
	must(p.t, e)
	return mapped{n, p.id}
}

// write maps blocks, each to a new data block.
func (p *pool) write(v uint64, blocks ...int) {
	p.t.Helper()
	for _, b := range blocks {
		m := p.data()
		top, e := volume.Map(p.s, p.top, v, b, m.data)
		must(p.t, e)
		p.top, p.list[v].blocks[b] = top, m
	}
}

func (p *pool) unmap(v uint64, blocks ...int) {
	p.t.Helper()
	for _, b := range blocks {
		top, is, e := volume.Unmap(p.s, p.top, v, b)
		if _, was := p.list[v].blocks[b]; is != was || e != api.OK {
			p.t.Fatalf("Unmap(%d, %d): %v, errno %d; want %v", v, b, is, e, was)
		}
		p.top = top
		delete(p.list[v].blocks, b)
	}
}

func (p *pool) commit() {
	p.t.Helper()
	must(p.t, p.s.Commit(api.Super{Top: p.top}))
}

// holds holds that the pool's top shows what it should, and that nothing leaks; tops are others that the test has names of.
func (p *pool) holds(tops ...uint32) {
	p.t.Helper()
	shows(p.t, p.s, p.top, p.list)
	counted(p.t, p.s, append(tops, p.top)...)
}

// row is the blocks from one up to another, each so far from the last.
func row(from, to, step int) []int {
	var l []int
	for b := from; b <= to; b += step {
		l = append(l, b)
	}
	return l
}

// shows holds all that is told of a top against a table.
func shows(t testing.TB, s *store.Store, top uint32, l table) {
	t.Helper()
	should(t, "the top tree", btree.Check(s, top, api.NodeTop), api.OK)
	if (top == 0) != (len(l) == 0) {
		t.Errorf("the top %d of %d volumes", top, len(l))
	}
	numbers := slices.Sorted(maps.Keys(l))
	all, e := volume.All(s, top)
	if len(all) != len(l) || e != api.OK {
		t.Errorf("All: %v, errno %d; want %v", all, e, l)
		return
	}
	for i, n := range numbers {
		got(t, s, top, n, l)
		root, _, _, _ := volume.Get(s, top, n)
		if want := (api.Volume{Number: n, Root: root, Size: l[n].size}); all[i] != want {
			t.Errorf("All: %v at %d; want %v", all[i], i, want)
		}
		mapShows(t, s, top, n, l[n])
	}
	for _, n := range []uint64{1, 2, 3, 100, mostVolume - 1, mostVolume} {
		got(t, s, top, n, l)
	}
	for _, n := range numbers {
		got(t, s, top, max(n-1, 1), l)
		got(t, s, top, min(n+1, mostVolume), l)
	}
}

// got holds what Get tells, of a volume that there is, or that there is not.
func got(t testing.TB, s *store.Store, top uint32, n uint64, l table) {
	t.Helper()
	want, there := l[n]
	root, size, is, e := volume.Get(s, top, n)
	if size != want.size || is != there || e != api.OK || (root == 0) != (len(want.blocks) == 0) {
		t.Errorf("Get(%d): %d, %d, %v, errno %d; want %d, %v", n, root, size, is, e, want.size, there)
	}
}

// mapShows holds all that is told of a volume's map against what it should be.
func mapShows(t testing.TB, s *store.Store, top uint32, n uint64, want plain) {
	t.Helper()
	root, _, _, _ := volume.Get(s, top, n)
	should(t, "a map", btree.Check(s, root, api.NodeMap), api.OK)
	pairs, e := btree.All(s, root, 0)
	if len(pairs) != len(want.blocks) || e != api.OK {
		t.Errorf("the map of %d: %v, errno %d; want %v", n, pairs, e, want.blocks)
	}
	for b := range want.size {
		m, there := want.blocks[b]
		data, is, e := volume.Find(s, top, n, b)
		if data != m.data || is != there || e != api.OK {
			t.Errorf("Find(%d, %d): %d, %v, errno %d; want %d, %v", n, b, data, is, e, m.data, there)
		}
		if !there {
			continue
		}
		if x, e := s.Data(data); x != told(m.id) || e != api.OK {
			t.Errorf("the data block %d of %d in %d says %v, errno %d; want %d", data, b, n, x[:4], e, m.id)
		}
	}
	for _, b := range []int{want.size, want.size + 1, -1, math.MaxInt, math.MinInt} {
		if data, is, e := volume.Find(s, top, n, b); data != 0 || is || e != api.ErrRange {
			t.Errorf("Find(%d, %d): %d, %v, errno %d; want errno %d alone", n, b, data, is, e, api.ErrRange)
		}
	}
}

// counted holds each block's count against how often it is named: by tops that the test has names of, and by all that can be reached of them.
func counted(t testing.TB, s *store.Store, tops ...uint32) {
	t.Helper()
	x := s.Super()
	meta, data := make([]int, x.Meta), make([]int, x.Data)
	meta[0] = 1
	for _, n := range x.Pages {
		if n != 0 {
			meta[n] = 1
		}
	}
	var name func(n uint32)
	name = func(n uint32) {
		if meta[n]++; meta[n] > 1 || n == 0 {
			return
		}
		x, e := s.Node(n)
		must(t, e)
		for _, v := range x.Vals {
			switch x.Kind {
			case api.NodeMap:
				data[v]++
			case api.NodeInner:
				name(uint32(v))
			case api.NodeTop:
				if v>>32 != 0 {
					name(uint32(v >> 32))
				}
			}
		}
	}
	for _, top := range tops {
		if top != 0 {
			name(top)
		}
	}
	for n, want := range meta {
		if is := int(s.Count(uint32(n))); is != want {
			t.Errorf("the metadata block %d is counted %d; it is named %d times", n, is, want)
		}
	}
	for n, want := range data {
		if is := int(s.DataCount(uint32(n))); is != want {
			t.Errorf("the data block %d is counted %d; it is named %d times", n, is, want)
		}
	}
}

// looks is all that a store tells of itself.
type looks struct {
	Super      api.Super
	Meta, Data int
	Counts     []uint16
	Datas      []uint16
	Fresh      int
	Nodes      []api.Node
	Errors     []api.Errno
	Broken     bool
}

func looksOf(s *store.Store) looks {
	l := looks{Super: s.Super(), Fresh: s.Fresh(), Broken: s.Broken()}
	l.Meta, l.Data = s.Room()
	for n := range uint32(l.Super.Meta) {
		l.Counts = append(l.Counts, s.Count(n))
		x, e := s.Node(n)
		l.Nodes, l.Errors = append(l.Nodes, block.Copy(x)), append(l.Errors, e)
	}
	for n := range uint32(l.Super.Data) {
		l.Datas = append(l.Datas, s.DataCount(n))
	}
	return l
}

// unchanged does what should change nothing that a store tells of itself, nor its disk.
func unchanged(t testing.TB, d *disk.Disk, s *store.Store, what string, do func()) {
	t.Helper()
	was, before := looksOf(s), d.Copy()
	do()
	same(t, d, s, what, was, before)
}

// same holds that a store tells of itself what it told, and that its disk is as it was.
func same(t testing.TB, d *disk.Disk, s *store.Store, what string, was looks, before *disk.Disk) {
	t.Helper()
	if now := looksOf(s); !reflect.DeepEqual(now, was) {
		t.Errorf("%s: changed\n%+v\nto\n%+v", what, was, now)
	}
	if !d.Same(before) || !slices.Equal(d.Open(), before.Open()) {
		t.Errorf("%s: the disk is changed", what)
	}
}

// call is a call of whatever function, with all that it answers: numbers of none are 0.
type call struct {
	what string
	do   func(s *store.Store, top uint32) answer
}

// answer is what a call answers.
type answer struct {
	root uint32
	size int
	is   bool
	list []api.Volume
	e    api.Errno
}

// changes: is it a call that tells a new top?
func (c call) changes() bool { return c.what != "Get" && c.what != "Find" && c.what != "All" }

func getting(v uint64) call {
	return call{"Get", func(s *store.Store, top uint32) answer {
		root, size, is, e := volume.Get(s, top, v)
		return answer{root: root, size: size, is: is, e: e}
	}}
}

func creating(v uint64, size int) call {
	return call{"Create", func(s *store.Store, top uint32) answer {
		top, e := volume.Create(s, top, v, size)
		return answer{root: top, e: e}
	}}
}

func deleting(v uint64) call {
	return call{"Delete", func(s *store.Store, top uint32) answer {
		top, e := volume.Delete(s, top, v)
		return answer{root: top, e: e}
	}}
}

func resizing(v uint64, size int) call {
	return call{"Resize", func(s *store.Store, top uint32) answer {
		top, e := volume.Resize(s, top, v, size)
		return answer{root: top, e: e}
	}}
}

func snapping(v, to uint64) call {
	return call{"Snap", func(s *store.Store, top uint32) answer {
		top, e := volume.Snap(s, top, v, to)
		return answer{root: top, e: e}
	}}
}

func finding(v uint64, b int) call {
	return call{"Find", func(s *store.Store, top uint32) answer {
		data, is, e := volume.Find(s, top, v, b)
		return answer{root: data, is: is, e: e}
	}}
}

func mapping(v uint64, b int, data uint32) call {
	return call{"Map", func(s *store.Store, top uint32) answer {
		top, e := volume.Map(s, top, v, b, data)
		return answer{root: top, e: e}
	}}
}

func unmapping(v uint64, b int) call {
	return call{"Unmap", func(s *store.Store, top uint32) answer {
		top, is, e := volume.Unmap(s, top, v, b)
		return answer{root: top, is: is, e: e}
	}}
}

func listing() call {
	return call{"All", func(s *store.Store, top uint32) answer {
		l, e := volume.All(s, top)
		return answer{list: l, e: e}
	}}
}

// refused holds that a call is refused with an error, with nothing beside it.
func refused(t testing.TB, s *store.Store, what string, c call, top uint32, want api.Errno) {
	t.Helper()
	if a := c.do(s, top); !reflect.DeepEqual(a, answer{e: want}) {
		t.Errorf("%s: %s: %+v; want errno %d alone", what, c.what, a, want)
	}
}

// wrong holds that a call is refused, and has changed nothing.
func wrong(t testing.TB, d *disk.Disk, s *store.Store, what string, c call, top uint32, want api.Errno) {
	t.Helper()
	unchanged(t, d, s, what, func() { refused(t, s, what, c, top, want) })
}

// fill takes free metadata blocks, till so many are left.
func fill(t testing.TB, s *store.Store, left int) {
	t.Helper()
	for m, _ := s.Room(); m > left; m-- {
		_, e := s.New(api.Node{Kind: api.NodeTop})
		must(t, e)
	}
}
