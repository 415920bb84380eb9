package store_test

import (
	"math/rand"
	"reflect"
	"testing"

	"voile/api"
	"voile/disk"
	"voile/store"
	"voile/super"
)

// sight is what a store shows: how often each block is named, and all that can be reached.
type sight struct {
	Super      api.Super
	Meta, Data []uint16
	Nodes      map[uint32]api.Node
	Bytes      map[uint32]api.Block
}

func sightOf(t testing.TB, s *store.Store) sight {
	t.Helper()
	x := s.Super()
	l := sight{Super: x, Nodes: map[uint32]api.Node{}, Bytes: map[uint32]api.Block{}}
	for n := range uint32(x.Meta) {
		l.Meta = append(l.Meta, s.Count(n))
	}
	for n := range uint32(x.Data) {
		l.Data = append(l.Data, s.DataCount(n))
	}
	row := []spot{{no: uint64(x.Top)}, {no: uint64(x.Base)}, {no: uint64(x.Stage)}}
	for len(row) > 0 {
		n := row[0]
		row = row[1:]
		switch {
		case n.data:
			b, e := s.Data(uint32(n.no))
			must(t, e)
			l.Bytes[uint32(n.no)] = b
		case n.no != 0:
			y, e := s.Node(uint32(n.no))
			must(t, e)
			l.Nodes[uint32(n.no)] = plainNode(y)
			row = append(row, under(y)...)
		}
	}
	return l
}

// life is what is done with a store, as a seed tells it, till its disk dies, or all is done.
type life struct {
	t *testing.T
	r *rand.Rand
	s *store.Store
	// roots are those that the next commit will have.
	roots api.Super
	most  int // data blocks that the disk has room for
	// underWay: was it a commit that the disk died under?
	underWay bool
	// sights, of each Tx, are gathered if there is a map for them.
	sights map[uint64]sight
}

// live does so many acts; did the disk die?
func (l *life) live(acts int) bool {
	for range acts {
		if e := l.act(); e == api.ErrDead {
			return true
		} else if e != api.OK {
			if e != api.ErrFull {
				l.t.Fatalf("errno %d", e)
			}
			l.s.Abort()
			l.roots = l.s.Super()
		}
	}
	return false
}

func (l *life) act() api.Errno {
	switch l.r.Intn(10) {
	case 0, 1, 2:
		return l.write()
	case 3, 4:
		return l.change()
	case 5:
		if e := l.s.Hold(l.roots.Top); e != api.OK {
			return e
		}
		e := l.s.Drop(l.roots.Base)
		l.roots.Base = l.roots.Top
		return e
	case 6:
		e := l.s.Drop(l.roots.Stage)
		l.roots.Stage = 0
		return e
	case 7:
		if l.r.Intn(3) == 0 {
			l.s.Abort()
			l.roots = l.s.Super()
			to := min(l.roots.Data+l.r.Intn(2), l.most)
			return l.commit(func() api.Errno { return l.s.Grow(to) })
		}
	}
	l.roots.State.Seq++
	return l.commit(func() api.Errno { return l.s.Commit(l.roots) })
}

// commit does a commit, or a Grow.
func (l *life) commit(do func() api.Errno) api.Errno {
	e := do()
	l.underWay = e == api.ErrDead
	if e == api.OK {
		l.roots = l.s.Super()
		if l.sights != nil {
			l.sights[l.roots.Tx] = sightOf(l.t, l.s)
		}
	}
	return e
}

// write makes a new top, of one map with some data blocks.
func (l *life) write() api.Errno {
	var data []uint64
	for range 1 + l.r.Intn(3) {
		n, e := l.s.NewData(api.Block{byte(l.r.Intn(3)), 255: byte(l.r.Intn(3))})
		if e != api.OK {
			return e
		}
		data = append(data, uint64(n))
	}
	low, e := l.s.New(leaf(data...))
	if e != api.OK {
		return e
	}
	n, e := l.s.New(top(uint64(low)))
	if e != api.OK {
		return e
	}
	at := &l.roots.Top
	if l.r.Intn(3) == 0 {
		at = &l.roots.Stage
	}
	old := *at
	*at = n
	return l.s.Drop(old)
}

// change writes another data block into the map of the top.
func (l *life) change() api.Errno {
	if l.roots.Top == 0 {
		return api.OK
	}
	n, x, e := l.s.Shadow(l.roots.Top)
	if e != api.OK {
		return e
	}
	l.roots.Top = n
	low, y, e := l.s.Shadow(uint32(x.Vals[0] >> 32))
	if e != api.OK {
		return e
	}
	data, e := l.s.NewData(api.Block{byte(l.r.Intn(3)), 100: 9})
	if e != api.OK {
		return e
	}
	if e := l.s.DropData(uint32(y.Vals[0])); e != api.OK {
		return e
	}
	y.Vals[0] = uint64(data)
	if e := l.s.Put(low, y); e != api.OK {
		return e
	}
	x.Vals[0] = uint64(low)<<32 + 1
	return l.s.Put(n, x)
}

func lifeOf(t *testing.T, d *disk.Disk, seed int64) *life {
	t.Helper()
	s := open(t, d)
	x := s.Super()
	return &life{t: t, r: rand.New(rand.NewSource(seed)), s: s, roots: x, most: d.Sectors()/4 - 2 - x.Meta}
}

// losses are disks that a loss of power may leave: all of them, where few sectors are open, else some.
func losses(t testing.TB, d *disk.Disk, r *rand.Rand, do func(left *disk.Disk)) {
	t.Helper()
	open := len(d.Open())
	crash := func(pick func(i int) int) {
		picks := make([]int, open)
		for i := range picks {
			picks[i] = pick(i)
		}
		left := d.Copy()
		must(t, left.Crash(picks))
		do(left)
	}
	if open <= 4 {
		for bits := range 1 << open {
			crash(func(i int) int { return bits >> i & 1 })
		}
		return
	}
	crash(func(i int) int { return 0 })
	crash(func(i int) int { return -1 })
	crash(func(i int) int { return i % 2 })
	for range 4 {
		crash(func(i int) int { return r.Intn(6) })
	}
}

// P8.6

// Wherever the power goes, what is opened is the last commit that was answered, or the one on its way, whole.
func TestLossOfPower(t *testing.T) {
	r := rand.New(rand.NewSource(86))
	for seed := range int64(8) {
		first := format(t, 16+int(seed), 4+int(seed), 3)
		sights := map[uint64]sight{1: sightOf(t, open(t, first))}
		all := lifeOf(t, first.Copy(), seed)
		all.sights = sights
		if all.live(40) {
			t.Fatal("dead")
		}
		died, late := 0, 0
		for fuse := 0; ; fuse++ {
			d := first.Copy()
			l := lifeOf(t, d, seed)
			must(t, d.Fuse(fuse))
			dead := l.live(40)
			if dead {
				died++
			}
			answered := l.s.Super().Tx
			losses(t, d, r, func(left *disk.Disk) {
				now := sightOf(t, open(t, left))
				if !reflect.DeepEqual(now, sights[answered]) && !(l.underWay && reflect.DeepEqual(now, sights[answered+1])) {
					t.Fatalf("seed %d, fuse %d: %v; %d was answered, %v: %v", seed, fuse, now.Super, answered, l.underWay, now)
				}
				if now.Super.Tx > answered {
					late++
				}
			})
			if !dead {
				break
			}
		}
		if len(sights) < 5 || died < 100 || late == 0 {
			t.Errorf("seed %d: %d commits, %d deaths, %d commits on their way", seed, len(sights), died, late)
		}
	}
}

// A long row of losses, each behind what the one ahead of it left.
func TestManyLosses(t *testing.T) {
	r := rand.New(rand.NewSource(87))
	for range 60 {
		d := format(t, 16+r.Intn(10), 3+r.Intn(8), 4)
		was := sightOf(t, open(t, d))
		for range 40 {
			seed := r.Int63()
			whole := lifeOf(t, d.Copy(), seed)
			whole.sights = map[uint64]sight{was.Super.Tx: was}
			whole.live(12)
			l := lifeOf(t, d, seed)
			must(t, d.Fuse(r.Intn(150)))
			dead := l.live(12)
			answered := l.s.Super().Tx
			picks := make([]int, len(d.Open()))
			for i := range picks {
				picks[i] = r.Intn(4)
			}
			must(t, d.Crash(picks))
			now := sightOf(t, open(t, d))
			if !reflect.DeepEqual(now, whole.sights[answered]) && !(dead && l.underWay && reflect.DeepEqual(now, whole.sights[answered+1])) {
				t.Fatalf("%v; %d was answered", now.Super, answered)
			}
			was = now
		}
	}
}

// step is a Write of a block's sector, or a Flush.
type step struct {
	flush bool
	at    int
	bytes api.Sector
}

func stepsOf(n int, b api.Block) []step {
	var l []step
	for i := range 4 {
		l = append(l, step{at: 4*n + i, bytes: api.Sector(b[64*i:])})
	}
	return l
}

// Each step of a commit, at every fuse: the fresh nodes, the pages, a flush, the superblock.
func TestCommitStepByStep(t *testing.T) {
	for _, torn := range []bool{false, true} {
		first := format(t, 16, 8, 0)
		if torn {
			lay(t, first, 0, api.Block{3})
		}
		begin := func() (*disk.Disk, *store.Store) {
			d := first.Copy()
			s := open(t, d)
			addData(t, s, api.Block{5})
			must(t, s.Free(add(t, s, leaf(0))))
			for range 3 {
				add(t, s, leaf(0))
			}
			return d, s
		}
		d, s := begin()
		commit(t, s, 4)
		var l []step
		for _, n := range []int{2 + 4, 2 + 5, 2 + 6, 2 + 7, 2 + 8} {
			l = append(l, stepsOf(n, read(t, d, n))...)
		}
		l = append(l, step{flush: true})
		if torn {
			l = append(l, step{}, step{flush: true})
		}
		l = append(append(l, stepsOf(0, read(t, d, 0))...), step{flush: true})
		for fuse := range len(l) + 2 {
			got, s := begin()
			want := got.Copy()
			must(t, got.Fuse(fuse))
			must(t, want.Fuse(fuse))
			e, o := s.Commit(api.Super{Top: 4}), api.OK
			for _, x := range l {
				if o == api.OK && x.flush {
					o = want.Flush()
				} else if o == api.OK {
					o = want.Write(x.at, x.bytes)
				}
			}
			if e != o || !same(got, want) || (e == api.OK) != (fuse >= len(l)) {
				t.Errorf("fuse %d: errno %d; want %d; open %v; want %v", fuse, e, o, got.Open(), want.Open())
			}
			// What lasts of each sector, and whether it is written more than once, is the same, too.
			must(t, got.Crash(nil))
			must(t, want.Crash(nil))
			if !same(got, want) {
				t.Errorf("fuse %d: something else lasts", fuse)
			}
		}
	}
}

// olds are disks that are formatted anew, with what is opened there ahead of it.
func olds(t *testing.T) map[string]*disk.Disk {
	l := map[string]*disk.Disk{"noughts": newDisk(t, 4*40), "bytes": rubbish(t, 4*40)}
	for commits, name := range []string{"formatted", "a commit", "two commits", "three commits", "four commits"} {
		d := format(t, 16, 8, 14)
		old := lifeOf(t, d, int64(commits))
		for range commits {
			must(t, old.write())
			old.roots.State = api.State{Seq: 7, Marked: true}
			must(t, old.commit(func() api.Errno { return old.s.Commit(old.roots) }))
		}
		l[name] = d
		for slot := range 2 {
			torn := d.Copy()
			b := read(t, d, slot)
			copy(b[64:], "torn")
			lay(t, torn, slot, b)
			if _, e := store.Open(torn); e != api.ErrSound {
				// (Pages that were written over, where an elder one counts again: no store.)
				l[name+", torn"+string(rune('0'+slot))] = torn
			}
		}
	}
	return l
}

// The power goes while a disk is formatted: what is opened is what was there, whole; or nothing; or what was formatted.
func TestLossOfPowerInFormat(t *testing.T) {
	r := rand.New(rand.NewSource(88))
	for why, old := range olds(t) {
		for _, areas := range [][2]int{{16, 8}, {20, 3}, {16, 21}} {
			lossInFormat(t, r, why, old, areas[0], areas[1])
		}
	}
}

func lossInFormat(t *testing.T, r *rand.Rand, why string, old *disk.Disk, meta, data int) {
	t.Helper()
	var was sight
	if s, e := store.Open(old); e == api.OK {
		was = sightOf(t, s)
	}
	whole := old.Copy()
	must(t, store.Format(whole, meta, data))
	want := sightOf(t, open(t, whole))
	seen := map[string]int{}
	for fuse := 0; ; fuse++ {
		d := old.Copy()
		must(t, d.Fuse(fuse))
		done := store.Format(d, meta, data)
		losses(t, d, r, func(left *disk.Disk) {
			s, e := store.Open(left)
			if e != api.OK {
				seen["none"]++
				if e != api.ErrNone || done == api.OK {
					t.Fatalf("%s, fuse %d: errno %d behind %d", why, fuse, e, done)
				}
			} else if now := sightOf(t, s); reflect.DeepEqual(now, want) {
				seen["new"]++
			} else if seen["old"]++; was.Super.Tx == 0 || !reflect.DeepEqual(now, was) || done == api.OK {
				t.Fatalf("%s, fuse %d: %v; %v was there", why, fuse, now, was.Super)
			}
			// It can be done again.
			must(t, store.Format(left, meta, data))
			if now := sightOf(t, open(t, left)); !reflect.DeepEqual(now, want) || read(t, left, 0) != (api.Block{}) {
				t.Fatalf("%s, fuse %d, again: %v", why, fuse, now.Super)
			}
		})
		if done == api.OK {
			break
		}
		should(t, "Format", done, api.ErrDead)
	}
	if seen["new"] == 0 || seen["none"] == 0 || (seen["old"] == 0) != (was.Super.Tx == 0 || reflect.DeepEqual(was, want)) {
		t.Errorf("%s: %v", why, seen)
	}
}

// Behind an elder store's Format, nothing of it comes back: not by a commit that is torn, either.
func TestLossOfPowerBehindFormat(t *testing.T) {
	r := rand.New(rand.NewSource(89))
	for why, old := range olds(t) {
		must(t, store.Format(old, 16, 8))
		was := sightOf(t, open(t, old))
		for fuse := range 40 {
			d := old.Copy()
			must(t, d.Fuse(fuse))
			s := open(t, d)
			e := s.Commit(api.Super{State: api.State{Seq: 7, Marked: true}})
			losses(t, d, r, func(left *disk.Disk) {
				now := sightOf(t, open(t, left))
				if e == api.OK && now.Super.Tx != 2 || now.Super.Tx == 1 && !reflect.DeepEqual(now, was) || now.Super.Tx > 2 {
					t.Fatalf("%s, fuse %d: %v", why, fuse, now.Super)
				}
			})
		}
	}
}

// What lies in the slots decides alone: a store whose superblock is written by another way is opened by it.
func TestOpenIsOfTheOneThatCounts(t *testing.T) {
	d, s := small(t)
	n := add(t, s, leaf())
	commit(t, s, n)
	commit(t, s, n)
	x := s.Super()
	x.Tx, x.Top = x.Tx+1, 0
	must(t, super.Save(d, x))
	if o := open(t, d); o.Super() != x || o.Count(n) != 1 {
		t.Error(o.Super())
	}
}
