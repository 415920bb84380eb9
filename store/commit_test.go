package store_test

import (
	"math"
	"reflect"
	"testing"

	"voile/api"
	"voile/store"
	"voile/super"
)

// P8.4

func TestCommit(t *testing.T) {
	d, s := small(t)
	state := api.State{Epoch: 5, Last: 4, Seq: 3, BaseLast: 2, BaseSeq: 1, Marked: true}
	a, b, c := add(t, s, leaf(0)), add(t, s, leaf()), add(t, s, top())
	addData(t, s, api.Block{8})
	must(t, s.Commit(api.Super{Tx: 99, Meta: 7, Data: 1, Pages: [6]uint32{9, 9, 9, 9, 9, 9}, Top: a, Base: b, Stage: c, Cursor: 6, State: state}))
	want := api.Super{Tx: 2, Meta: 16, Data: 8, Pages: [6]uint32{6, 7}, Top: a, Base: b, Stage: c, Cursor: 1, State: state}
	if s.Super() != want || s.Fresh() != 0 {
		t.Errorf("%v, %d; want %v", s.Super(), s.Fresh(), want)
	}
	slot, e := super.Block(want)
	must(t, e)
	meta := []uint16{1, 0, 0, 1, 1, 1, 1, 1, 0, 0, 0, 0, 0, 0, 0, 0}
	for n, right := range map[int]api.Block{
		0: slot, 2 + 3: blockOf(t, 3, born(leaf(0), 2)), 2 + 4: blockOf(t, 4, born(leaf(), 2)), 2 + 5: blockOf(t, 5, born(top(), 2)),
		2 + 6: pageOf(t, 6, 0, meta), 2 + 7: pageOf(t, 7, 0, []uint16{1, 0, 0, 0, 0, 0, 0, 0}), 2 + 16: {8}, 2 + 8: {},
	} {
		if b := read(t, d, n); b != right {
			t.Errorf("block %d: %x; want %x", n, b, right)
		}
	}
	room(t, s, 10, 7)
	if !reflect.DeepEqual(looksOf(open(t, d)), looksOf(s)) {
		t.Error("what is opened is another store")
	}
	// Once more, with nothing: the pages move on, and their elder blocks are free again.
	must(t, s.Commit(api.Super{Top: a, Base: b, Stage: c}))
	want.Tx, want.Pages, want.State = 3, [6]uint32{8, 9}, api.State{}
	if s.Super() != want {
		t.Errorf("%v; want %v", s.Super(), want)
	}
	room(t, s, 10, 7)
	if open(t, d).Super() != want {
		t.Error("what is opened is another store")
	}
	// Roots of 0, and of one block.
	must(t, s.Commit(api.Super{}))
	must(t, s.Commit(api.Super{Top: 3, Base: 3, Stage: 3}))
	if x := open(t, d).Super(); x.Top != 3 || x.Base != 3 || x.Stage != 3 || x.Tx != 5 {
		t.Error(x)
	}
}

func TestCommitOfWhatMayNotBe(t *testing.T) {
	d, s := small(t)
	n := add(t, s, leaf())
	addData(t, s, api.Block{1})
	for _, x := range []api.Super{{Top: 16}, {Base: 16}, {Stage: 16}, {Top: math.MaxUint32}, {Base: 1 << 31}, {Stage: 240}, {Top: n, Base: n, Stage: 17}} {
		unchanged(t, d, s, "Commit", func() { should(t, "Commit", s.Commit(x), api.ErrArg) })
	}
	// The greatest root that may be, if it is named; of one that may not be is told ahead of room that is wanting.
	for s.Count(15) == 0 {
		add(t, s, leaf())
	}
	unchanged(t, d, s, "without room", func() { should(t, "Commit", s.Commit(api.Super{Base: 16}), api.ErrArg) })
	for m := n + 1; m < 15; m++ {
		must(t, s.Free(m))
	}
	commit(t, s, 15)
	shows(t, open(t, d), 15, born(leaf(), 2))
	// No superblock comes behind the last one.
	d = crafted(t, func(x *image) { x.super.Tx = 1 << 62 })
	s = open(t, d)
	add(t, s, leaf())
	unchanged(t, d, s, "the last Tx", func() { should(t, "Commit", s.Commit(api.Super{}), api.ErrArg) })
	d = crafted(t, func(x *image) { x.super.Tx = 1<<62 - 1 })
	s = open(t, d)
	commit(t, s, add(t, s, leaf()))
	if s.Super().Tx != 1<<62 || open(t, d).Super().Tx != 1<<62 {
		t.Error(s.Super())
	}
}

// A root that nobody names may be (5): what is committed with it can't be opened.
func TestCommitOfARootThatIsNotNamed(t *testing.T) {
	for _, x := range []api.Super{{Top: 9}, {Base: 9}, {Stage: 9}} {
		d, s := small(t)
		must(t, s.Commit(x))
		refuseOpen(t, d, api.ErrSound, "a root that is named by none")
	}
}

// Without room for the pages all is as it was at the last commit.
func TestCommitWithoutRoom(t *testing.T) {
	for _, areas := range [][3]int{{16, 8, 2}, {16, 480, 5}, {120, 120, 2}, {121, 121, 4}} {
		d := format(t, areas[0], areas[1], 0)
		s := open(t, d)
		commit(t, s, add(t, s, leaf()))
		was := looksOf(s)
		b := addData(t, s, api.Block{1})
		must(t, s.DropData(b))
		must(t, s.Hold(s.Super().Top))
		for was.Meta-s.Fresh() > areas[2]-1 {
			add(t, s, leaf())
		}
		before := d.Copy()
		should(t, "Commit", s.Commit(api.Super{}), api.ErrFull)
		was.Bytes[b] = api.Block{1}
		if now := looksOf(s); !reflect.DeepEqual(now, was) {
			t.Errorf("%v: %v; want %v", areas, now, was)
		}
		if !same(d, before) {
			t.Errorf("%v: the disk is changed", areas)
		}
		if n := addData(t, s, api.Block{1}); n != b {
			t.Errorf("%v: the cursor gives %d; want %d", areas, n, b)
		}
		// With one node less there is room.
		for was.Meta-s.Fresh() > areas[2] {
			add(t, s, leaf())
		}
		commit(t, s, was.Super.Top)
		room(t, s, areas[2], areas[1]-1)
		open(t, d)
	}
}

// A page's block that is held is named by none behind a commit, as it was to be.
func TestCommitReleasesPages(t *testing.T) {
	d, s := small(t)
	must(t, s.Hold(1))
	must(t, s.Hold(2))
	must(t, s.Hold(2))
	commit(t, s, 0)
	counts(t, s, 0, 1, 0, 0, 1, 1)
	room(t, open(t, d), 13, 8)
}

// Abort behind each kind of call.
func TestAbort(t *testing.T) {
	for what, do := range map[string]func(s *store.Store){
		"nothing": func(s *store.Store) {},
		"New":     func(s *store.Store) { add(t, s, leaf()) },
		"Shadow, elder, once": func(s *store.Store) {
			_, _, e := s.Shadow(s.Super().Base)
			must(t, e)
		},
		"Shadow, elder, twice": func(s *store.Store) {
			_, _, e := s.Shadow(s.Super().Top)
			must(t, e)
		},
		"Put": func(s *store.Store) {
			n, _, e := s.Shadow(s.Super().Top)
			must(t, e)
			must(t, s.Put(n, leaf()))
		},
		"Hold":      func(s *store.Store) { must(t, s.Hold(s.Super().Top)) },
		"Drop":      func(s *store.Store) { must(t, s.Drop(s.Super().Base)) },
		"Drop, all": func(s *store.Store) { must(t, s.Drop(s.Super().Top)); must(t, s.Drop(s.Super().Top)) },
		"Free":      func(s *store.Store) { must(t, s.Free(add(t, s, leaf()))) },
		"DropData":  func(s *store.Store) { must(t, s.DropData(0)) },
		"all": func(s *store.Store) {
			add(t, s, leaf())
			must(t, s.Drop(s.Super().Base))
			must(t, s.DropData(0))
			must(t, s.Hold(s.Super().Top))
		},
	} {
		d, s := small(t)
		data := addData(t, s, api.Block{4})
		low := add(t, s, leaf(uint64(data)))
		tops := add(t, s, top(uint64(low)))
		must(t, s.Hold(tops))
		base := add(t, s, top())
		must(t, s.Commit(api.Super{Top: tops, Base: base}))
		o := open(t, d)
		for _, s := range []*store.Store{s, o} {
			unchanged(t, d, s, what, func() {
				do(s)
				s.Abort()
			})
			// Both cursors stand where they stood.
			want := map[*store.Store]uint32{s: 8, o: 1}[s]
			if n := add(t, s, leaf()); n != want {
				t.Errorf("%s: the next node is %d; want %d", what, n, want)
			}
			s.Abort()
		}
		if n := addData(t, s, api.Block{}); n != 1 {
			t.Errorf("%s: the next data block is %d", what, n)
		}
		s.Abort()
		if n := addData(t, s, api.Block{}); n != 1 || s.DataCount(n) != 1 {
			t.Errorf("%s: behind Abort the next data block is %d", what, n)
		}
		s.Abort()
		dataCounts(t, s, 1, 0)
		// What is committed behind it is as if nothing had been.
		must(t, s.Commit(s.Super()))
		if !reflect.DeepEqual(looksOf(open(t, d)), looksOf(s)) {
			t.Errorf("%s: another store", what)
		}
	}
}

func TestGrow(t *testing.T) {
	d := format(t, 16, 8, 500)
	s := open(t, d)
	n, b := add(t, s, leaf()), addData(t, s, api.Block{7})
	must(t, s.Commit(api.Super{Top: n, Base: n, Stage: n, State: api.State{Epoch: 3, Marked: true}}))
	want := s.Super()
	for i, data := range []int{8, 9, 120, 121, 121, 480, 480} {
		_, free := s.Room()
		must(t, s.Grow(data))
		was := want
		want.Tx, want.Data, want.Pages = uint64(3+i), data, s.Super().Pages
		if s.Super() != want || want.Pages == was.Pages {
			t.Errorf("Grow(%d): %v; want %v", data, s.Super(), want)
		}
		meta := 16 - 2 - pages(16, data)
		room(t, s, meta, free+data-was.Data)
		o := open(t, d)
		room(t, o, meta, free+data-was.Data)
		if x, e := o.Data(b); o.Super() != want || e != api.OK || x != (api.Block{7}) || o.DataCount(b) != 1 || o.DataCount(uint32(data-1)) != 0 {
			t.Errorf("Grow(%d): %v, %x, errno %d", data, o.Super(), x, e)
		}
		shows(t, o, n, born(leaf(), 2))
		if x, e := s.Data(uint32(data)); e != api.ErrArg || x != (api.Block{}) {
			t.Errorf("Grow(%d): Data behind it: errno %d", data, e)
		}
	}
	for range 479 {
		addData(t, s, api.Block{9})
	}
	if l := s.DataCount(479); l != 1 || read(t, d, 2+16+479) != (api.Block{9}) {
		t.Error(l)
	}
}

func TestGrowOfWhatMayNotBe(t *testing.T) {
	d := format(t, 16, 8, 4)
	s := open(t, d)
	n, b := add(t, s, leaf()), addData(t, s, api.Block{3})
	must(t, s.Hold(n))
	commit(t, s, n)
	// The disk has room for 12, and no sector more.
	for _, data := range []int{7, 1, 0, -1, math.MinInt, 13, 14, 480, 481, 1 << 40, math.MaxInt} {
		unchanged(t, d, s, "Grow", func() { should(t, "Grow", s.Grow(data), api.ErrArg) })
	}
	for what, do := range map[string]func(){
		"New":      func() { add(t, s, leaf()) },
		"Shadow":   func() { must(t, third(s.Shadow(n))) },
		"Hold":     func() { must(t, s.Hold(n)) },
		"Drop":     func() { must(t, s.Drop(n)) },
		"NewData":  func() { addData(t, s, api.Block{3}) },
		"DropData": func() { must(t, s.DropData(b)) },
		"Drop, and New": func() {
			must(t, s.Drop(n))
			must(t, s.Drop(n))
			add(t, s, leaf())
		},
	} {
		do()
		unchanged(t, d, s, what, func() {
			should(t, what+", and Grow", s.Grow(9), api.ErrArg)
			should(t, what+", and Grow to what there is", s.Grow(8), api.ErrArg)
		})
		s.Abort()
	}
	// What was made and dropped again is nothing.
	must(t, s.Drop(add(t, s, leaf())))
	must(t, s.Free(add(t, s, leaf())))
	must(t, s.DropData(addData(t, s, api.Block{5})))
	must(t, s.Hold(n))
	must(t, s.Drop(n))
	tops := add(t, s, top(uint64(add(t, s, leaf(uint64(addData(t, s, api.Block{})))))))
	must(t, s.Drop(tops))
	must(t, s.Grow(12))
	if x := s.Super(); x.Data != 12 || x.Tx != 3 || x.Cursor != 3 || open(t, d).Super() != x {
		t.Error(x)
	}
	// A disk that has grown has room for more.
	should(t, "Grow", s.Grow(13), api.ErrArg)
	must(t, d.Grow(4*(2+16+13)-1))
	should(t, "Grow", s.Grow(13), api.ErrArg)
	must(t, d.Grow(4*(2+16+13)))
	must(t, s.Grow(13))
	room(t, open(t, d), 12, 12)
}

// The data area needs a page more, and there is no room for it.
func TestGrowWithoutRoom(t *testing.T) {
	d := format(t, 16, 120, 10)
	s := open(t, d)
	for range 11 {
		add(t, s, leaf())
	}
	commit(t, s, 15-2)
	room(t, s, 2, 120)
	unchanged(t, d, s, "Grow", func() { should(t, "Grow", s.Grow(121), api.ErrFull) })
	must(t, s.Grow(120))
	unchanged(t, d, s, "Grow", func() { should(t, "Grow", s.Grow(130), api.ErrFull) })
	must(t, s.Drop(5))
	commit(t, s, 13)
	must(t, s.Grow(130))
	room(t, open(t, d), 2, 130)
}

// No superblock comes behind the last one.
func TestGrowOfTheLastTx(t *testing.T) {
	d := crafted(t, func(x *image) { x.super.Tx = 1 << 62 })
	s := open(t, d)
	unchanged(t, d, s, "Grow", func() { should(t, "Grow", s.Grow(8), api.ErrArg) })
}
