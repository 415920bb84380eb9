package store_test

import (
	"fmt"
	"math/rand"
	"reflect"
	"testing"

	"voile/api"
	"voile/block"
	"voile/disk"
	"voile/store"
)

// named is how often a block is named now, and was at the last commit.
type named struct{ now, was int }

// part is an area of a model.
type part struct {
	blocks        []named
	cursor, stood int
}

// model is a store just as the chapter's words tell it.
type model struct {
	meta, data part
	super      api.Super
	fresh      map[uint32]api.Node
	lies       map[uint32]api.Node // nodes that lie on the disk, each in its own block
	bytes      []api.Block         // of data blocks
}

// spot is a block that a node names.
type spot struct {
	data bool
	no   uint64
}

// formatted is the model of a disk of noughts that was formatted, and opened.
func formatted(meta, data int) *model {
	m := &model{
		meta:  part{blocks: make([]named, meta)},
		data:  part{blocks: make([]named, data)},
		super: api.Super{Tx: 1, Meta: meta, Data: data},
		fresh: map[uint32]api.Node{},
		lies:  map[uint32]api.Node{},
		bytes: make([]api.Block, data),
	}
	m.meta.blocks[0] = named{1, 1}
	for i := range pages(meta, data) {
		m.super.Pages[i] = uint32(i + 1)
		m.meta.blocks[i+1] = named{1, 1}
	}
	return m
}

// pages is how many pages areas need: each has 120 counts.
func pages(meta, data int) int { return (meta+119)/120 + (data+119)/120 }

// under is what a node names.
func under(x api.Node) []spot {
	var l []spot
	for _, v := range x.Vals {
		switch {
		case x.Kind == api.NodeMap:
			l = append(l, spot{true, v})
		case x.Kind == api.NodeInner && v != 0:
			l = append(l, spot{false, v})
		case x.Kind == api.NodeTop && v/(1<<32) != 0:
			l = append(l, spot{false, v / (1 << 32)})
		}
	}
	return l
}

func (p *part) alloc() (uint32, api.Errno) {
	for range p.blocks {
		n := p.cursor
		p.cursor++
		if p.cursor == len(p.blocks) {
			p.cursor = 0
		}
		if p.blocks[n] == (named{}) {
			p.blocks[n].now = 1
			return uint32(n), api.OK
		}
	}
	// All round, so the cursor stands where it stood.
	return 0, api.ErrFull
}

func (p *part) free() int {
	n := 0
	for _, b := range p.blocks {
		if b == (named{}) {
			n++
		}
	}
	return n
}

func (p *part) commit() {
	for i := range p.blocks {
		p.blocks[i].was = p.blocks[i].now
	}
	p.stood = p.cursor
}

func (p *part) abort() {
	for i := range p.blocks {
		p.blocks[i].now = p.blocks[i].was
	}
	p.cursor = p.stood
}

func (p *part) changed() bool {
	for _, b := range p.blocks {
		if b.now != b.was {
			return true
		}
	}
	return false
}

func (m *model) area(x spot) *part {
	if x.data {
		return &m.data
	}
	return &m.meta
}

func (m *model) has(n uint32) bool { return n >= 1 && int(n) < len(m.meta.blocks) }

func (m *model) node(n uint32) (api.Node, api.Errno) {
	if !m.has(n) {
		return api.Node{}, api.ErrArg
	}
	if x, is := m.fresh[n]; is {
		return x, api.OK
	}
	if x, is := m.lies[n]; is {
		return x, api.OK
	}
	return api.Node{}, api.ErrSound
}

func (m *model) make(x api.Node) (uint32, api.Errno) {
	if !block.May(x) {
		return 0, api.ErrArg
	}
	n, e := m.meta.alloc()
	if e != api.OK {
		return 0, e
	}
	x.Birth = m.super.Tx + 1
	m.fresh[n] = x
	return n, api.OK
}

func (m *model) hold(x spot) api.Errno {
	l := m.area(x).blocks
	switch {
	case x.no >= uint64(len(l)):
		return api.ErrArg
	case l[x.no].now == 0:
		return api.ErrState
	case l[x.no].now == 65535:
		return api.ErrFull
	}
	l[x.no].now++
	return api.OK
}

func (m *model) drop(x spot) api.Errno {
	l := m.area(x).blocks
	switch {
	case x.no >= uint64(len(l)):
		return api.ErrArg
	case l[x.no].now == 0:
		return api.ErrState
	case x.data || l[x.no].now > 1:
		l[x.no].now--
		return api.OK
	}
	n, e := m.node(uint32(x.no))
	if e != api.OK {
		return e
	}
	l[x.no].now = 0
	delete(m.fresh, uint32(x.no))
	for _, y := range under(n) {
		if e := m.drop(y); e != api.OK {
			return e
		}
	}
	return api.OK
}

func (m *model) shadow(n uint32) (uint32, api.Node, api.Errno) {
	if !m.has(n) {
		return 0, api.Node{}, api.ErrArg
	}
	if m.meta.blocks[n].now == 0 {
		return 0, api.Node{}, api.ErrState
	}
	x, e := m.node(n)
	if e != api.OK {
		return 0, api.Node{}, e
	}
	_, fresh := m.fresh[n]
	if fresh && m.meta.blocks[n].now == 1 {
		return n, x, api.OK
	}
	to, e := m.make(x)
	if e != api.OK {
		return 0, api.Node{}, e
	}
	if m.meta.blocks[n].now > 1 {
		for _, y := range under(x) {
			if e := m.hold(y); e != api.OK {
				return 0, api.Node{}, e
			}
		}
	}
	m.meta.blocks[n].now--
	return to, m.fresh[to], api.OK
}

func (m *model) put(n uint32, x api.Node) api.Errno {
	if !m.has(n) || !block.May(x) {
		return api.ErrArg
	}
	if _, is := m.fresh[n]; !is {
		return api.ErrState
	}
	x.Birth = m.super.Tx + 1
	m.fresh[n] = x
	return api.OK
}

func (m *model) release(n uint32) api.Errno {
	if !m.has(n) {
		return api.ErrArg
	}
	if _, is := m.fresh[n]; !is || m.meta.blocks[n].now != 1 {
		return api.ErrState
	}
	m.meta.blocks[n].now = 0
	delete(m.fresh, n)
	return api.OK
}

func (m *model) newData(b api.Block) (uint32, api.Errno) {
	n, e := m.data.alloc()
	if e == api.OK {
		m.bytes[n] = b
	}
	return n, e
}

func (m *model) commit(x api.Super) api.Errno {
	for _, root := range []uint32{x.Top, x.Base, x.Stage} {
		if int(root) >= len(m.meta.blocks) {
			return api.ErrArg
		}
	}
	for _, n := range m.super.Pages[:pages(m.super.Meta, m.super.Data)] {
		m.meta.blocks[n].now = 0
	}
	next := m.super
	next.Data = len(m.data.blocks)
	next.Tx++
	next.Top, next.Base, next.Stage, next.State = x.Top, x.Base, x.Stage, x.State
	for i := range pages(next.Meta, next.Data) {
		n, e := m.meta.alloc()
		if e != api.OK {
			m.abort()
			return e
		}
		next.Pages[i] = n
		delete(m.lies, n)
	}
	next.Cursor = m.data.cursor
	m.super = next
	for n, x := range m.fresh {
		m.lies[n] = x
	}
	m.fresh = map[uint32]api.Node{}
	m.meta.commit()
	m.data.commit()
	return api.OK
}

func (m *model) abort() {
	m.meta.abort()
	m.data.abort()
	m.fresh = map[uint32]api.Node{}
}

func (m *model) grow(data, sectors int) api.Errno {
	was := len(m.data.blocks)
	if data < was || data > 480 || m.meta.changed() || m.data.changed() || 4*(2+m.super.Meta+data) > sectors {
		return api.ErrArg
	}
	// As Abort, where there is no room for a page more: all that is kept of the last commit.
	if needs := pages(m.super.Meta, data); m.meta.free() < needs {
		m.abort()
		return api.ErrFull
	}
	m.data.blocks = append(m.data.blocks, make([]named, data-was)...)
	return m.commit(m.super)
}

// reopened is the model of the store that is opened on the same disk.
func (m *model) reopened() {
	m.abort()
	m.meta.cursor, m.meta.stood = 0, 0
	m.data.cursor, m.data.stood = m.super.Cursor, m.super.Cursor
}

// looks is all that a store tells of itself.
type looks struct {
	Super      api.Super
	Meta, Data int
	Counts     []int
	Datas      []int
	Fresh      int
	Nodes      []api.Node
	Errors     []api.Errno
	Bytes      []api.Block
	Broken     bool
}

// nil and empty lists are one.
func plainNode(x api.Node) api.Node {
	x.Keys = append([]uint64{}, x.Keys...)
	x.Vals = append([]uint64{}, x.Vals...)
	return x
}

func (m *model) looks() looks {
	l := looks{Super: m.super, Meta: m.meta.free(), Data: m.data.free(), Fresh: len(m.fresh)}
	l.Bytes = append([]api.Block(nil), m.bytes[:len(m.data.blocks)]...)
	for n, b := range m.meta.blocks {
		x, e := m.node(uint32(n))
		l.Counts = append(l.Counts, b.now)
		l.Nodes = append(l.Nodes, plainNode(x))
		l.Errors = append(l.Errors, e)
	}
	for _, b := range m.data.blocks {
		l.Datas = append(l.Datas, b.now)
	}
	return l
}

func looksOf(s *store.Store) looks {
	l := looks{Super: s.Super(), Fresh: s.Fresh(), Broken: s.Broken()}
	l.Meta, l.Data = s.Room()
	for n := range uint32(l.Super.Meta) {
		x, e := s.Node(n)
		l.Counts = append(l.Counts, int(s.Count(n)))
		l.Nodes = append(l.Nodes, plainNode(x))
		l.Errors = append(l.Errors, e)
	}
	for n := range uint32(l.Super.Data) {
		b, _ := s.Data(n)
		l.Datas = append(l.Datas, int(s.DataCount(n)))
		l.Bytes = append(l.Bytes, b)
	}
	return l
}

// pair is a store, and what the words make of it.
type pair struct {
	d *disk.Disk
	s *store.Store
	m *model
}

// begun is a pair on a new disk of so many blocks more than it needs.
func begun(t testing.TB, meta, data, more int) *pair {
	t.Helper()
	d := format(t, meta, data, more)
	m := formatted(meta, data)
	m.bytes = make([]api.Block, data+more)
	return &pair{d: d, s: open(t, d), m: m}
}

func (p *pair) check(t testing.TB, act string) {
	t.Helper()
	got, want := looksOf(p.s), p.m.looks()
	if !reflect.DeepEqual(got, want) {
		t.Fatalf("%s:\n%+v\nwant\n%+v", act, got, want)
	}
}

// acts is a row of bytes that say what is done.
type acts struct{ l []byte }

func (a *acts) next() int {
	if len(a.l) == 0 {
		return 0
	}
	n := a.l[0]
	a.l = a.l[1:]
	return int(n)
}

// node is a node that the acts say: one that may not be now and then, with names of all kinds.
func (a *acts) node(meta, data int) api.Node {
	x := api.Node{Kind: api.NodeKind(1 + a.next()%3), Birth: uint64(a.next())}
	if a.next()%32 == 31 {
		x.Kind = api.NodeKind(a.next()%8 - 2)
	}
	key := uint64(0)
	for range a.next() % 8 {
		v := uint64(a.next())
		switch x.Kind {
		case api.NodeMap:
			v %= uint64(data + 1)
		case api.NodeTop:
			v = v%uint64(meta+1)<<32 + v
		default:
			v %= uint64(meta + 1)
		}
		key += 1 + uint64(a.next()%3)
		x.Keys = append(x.Keys, key)
		x.Vals = append(x.Vals, v)
	}
	return x
}

// one does an act with both.
func (p *pair) one(t testing.TB, a *acts) {
	t.Helper()
	meta, data := len(p.m.meta.blocks), len(p.m.data.blocks)
	kind := a.next() % 20
	n := uint32(a.next() % (meta + 1))
	var no, wantNo uint32
	var x, wantX api.Node
	var e, want api.Errno
	switch kind {
	case 0, 1, 2:
		y := a.node(meta, data)
		no, e = p.s.New(y)
		wantNo, want = p.m.make(y)
	case 3, 4, 5:
		no, x, e = p.s.Shadow(n)
		wantNo, wantX, want = p.m.shadow(n)
	case 6:
		y := a.node(meta, data)
		e, want = p.s.Put(n, y), p.m.put(n, y)
	case 7, 8:
		e = p.s.Hold(n)
		if n != 0 {
			want = p.m.hold(spot{no: uint64(n)})
		}
	case 9, 10:
		e = p.s.Drop(n)
		if n != 0 {
			want = p.m.drop(spot{no: uint64(n)})
		}
	case 11:
		e, want = p.s.Free(n), p.m.release(n)
	case 12, 13:
		b := api.Block{0: byte(n), 255: byte(a.next())}
		no, e = p.s.NewData(b)
		wantNo, want = p.m.newData(b)
	case 14:
		n %= uint32(data + 1)
		e, want = p.s.DropData(n), p.m.drop(spot{data: true, no: uint64(n)})
	case 15, 16:
		y := api.Super{Top: n, Base: uint32(a.next() % 8), State: api.State{Seq: uint64(a.next()), Marked: n%2 == 0}}
		// A root that nobody names can be committed, and not be opened.
		if p.s.Count(y.Top) == 0 && int(y.Top) < meta || p.s.Count(y.Base) == 0 {
			y.Top, y.Base = 0, 0
		}
		e, want = p.s.Commit(y), p.m.commit(y)
	case 17:
		p.s.Abort()
		p.m.abort()
	case 18:
		to := data - 1 + a.next()%4
		e, want = p.s.Grow(to), p.m.grow(to, p.d.Sectors())
	case 19:
		if !opens(p.m) {
			refuseOpen(t, p.d, api.ErrSound, "what the words do not open")
			return
		}
		p.s = open(t, p.d)
		p.m.reopened()
	}
	if e != want || no != wantNo || !block.Same(x, wantX) {
		t.Fatalf("act %d of %d: %d, %v, %v; want %d, %v, %v", kind, n, no, x, e, wantNo, wantX, want)
	}
	if e != api.OK && (kind >= 3 && kind <= 5 || kind == 9 || kind == 10) {
		// What was begun may have changed; this is the way back.
		p.s.Abort()
		p.m.abort()
	}
}

// opens: is what was committed last such as Open asks for? (Some page's block may have been held, or a root be one that lost its name with the commit.)
func opens(m *model) bool {
	for _, n := range m.super.Pages[:pages(m.super.Meta, m.super.Data)] {
		if m.meta.blocks[n].was != 1 {
			return false
		}
	}
	for _, n := range []uint32{m.super.Top, m.super.Base, m.super.Stage} {
		if m.meta.blocks[n].was == 0 {
			return false
		}
	}
	return true
}

// P8.1 to P8.5: whatever is done, in whatever order.
func TestAsTheWordsTellIt(t *testing.T) {
	r := rand.New(rand.NewSource(8))
	for i := range 250 {
		p := begun(t, 16+r.Intn(12), 1+r.Intn(8), r.Intn(8))
		for step := range 200 {
			l := make([]byte, 40)
			r.Read(l)
			p.one(t, &acts{l})
			p.check(t, fmt.Sprint("store ", i, ", step ", step))
		}
	}
}

// Greater areas, with more than one page, which come to be so, too.
func TestGreatAreasAsTheWordsTellIt(t *testing.T) {
	r := rand.New(rand.NewSource(9))
	for _, areas := range [][3]int{{120, 119, 6}, {121, 239, 3}, {240, 359, 9}, {240, 479, 4}, {119, 120, 2}, {24, 118, 8}} {
		p := begun(t, areas[0], areas[1], areas[2])
		for step := range 300 {
			l := make([]byte, 40)
			r.Read(l)
			p.one(t, &acts{l})
			if step%30 == 0 {
				p.check(t, fmt.Sprint(areas, " step ", step))
			}
		}
		p.check(t, "behind all")
	}
}

// P0.6

func FuzzStore(f *testing.F) {
	f.Add(uint8(0), uint8(8), []byte{0, 0, 1, 2, 3, 4, 5, 6, 15, 3, 0, 0, 3, 3, 9, 3})
	f.Add(uint8(4), uint8(1), []byte{12, 0, 1, 12, 1, 1, 14, 0, 18, 0, 2, 19, 0, 17})
	f.Add(uint8(120), uint8(118), []byte{18, 0, 3, 18, 0, 3, 15, 0, 0, 0, 7, 3, 9, 3})
	f.Fuzz(func(t *testing.T, meta, data uint8, l []byte) {
		if len(l) > 600 {
			return
		}
		p := begun(t, 16+int(meta)%225, 1+int(data), 6)
		a := &acts{l}
		for len(a.l) > 0 {
			p.one(t, a)
		}
		p.check(t, "behind all")
	})
}
