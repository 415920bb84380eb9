package volume_test

import (
	"math/rand"
	"slices"
	"testing"

	"voile/api"
	"voile/btree"
	"voile/volume"
)

// The example of the chapter.
func TestExample(t *testing.T) {
	p := newPool(t, 32, 8)
	p.create(1, 8)
	p.write(1, 3)
	d := p.list[1].blocks[3]
	p.snap(1, 2)
	p.write(1, 3)
	if data, is, e := volume.Find(p.s, p.top, 2, 3); data != d.data || !is || e != api.OK {
		t.Errorf("Find(2, 3): %d, %v, errno %d; want %d", data, is, e, d.data)
	}
	if data, is, e := volume.Find(p.s, p.top, 1, 3); data == d.data || !is || e != api.OK {
		t.Errorf("Find(1, 3): %d, %v, errno %d; want another one than %d", data, is, e, d.data)
	}
	p.holds()
}

// P11.1, P11.2

// Of no volume at all nothing is told, and nothing can be done but make one.
func TestNoVolume(t *testing.T) {
	p := newPool(t, 16, 8)
	p.holds()
	unchanged(t, p.d, p.s, "no volume", func() {
		if l, e := volume.All(p.s, 0); len(l) != 0 || e != api.OK {
			t.Errorf("All: %v, errno %d", l, e)
		}
		for _, v := range []uint64{1, 2, mostVolume} {
			if root, size, is, e := volume.Get(p.s, 0, v); root != 0 || size != 0 || is || e != api.OK {
				t.Errorf("Get(%d): %d, %d, %v, errno %d", v, root, size, is, e)
			}
			for _, c := range []call{deleting(v), resizing(v, 1), snapping(v, 9), finding(v, 0), mapping(v, 0, 0), unmapping(v, 0)} {
				refused(t, p.s, "no volume", c, 0, api.ErrNone)
			}
		}
	})
}

// A volume of each size that there is, and of each number at the ends.
func TestSizesAndNumbers(t *testing.T) {
	for _, n := range []uint64{1, 2, 1 << 16, 1 << 31, mostVolume - 1, mostVolume} {
		for size := range api.MaxSize + 1 {
			if n != 1 && size%51 > 1 && size < api.MaxSize {
				continue
			}
			p := newPool(t, 16, 8)
			p.create(n, size)
			root, is, yes, e := volume.Get(p.s, p.top, n)
			if root != 0 || is != size || !yes || e != api.OK {
				t.Errorf("Get(%d): %d, %d, %v, errno %d; want the size %d", n, root, is, yes, e, size)
			}
			for _, b := range []int{0, size / 2, size - 1} {
				if b >= 0 && b < size {
					p.write(n, b)
				}
			}
			p.holds()
			p.delete(n)
			p.holds()
			if m, d := p.s.Room(); p.top != 0 || m != 13 || d != 8 {
				t.Errorf("behind Delete: the top %d, %d and %d free blocks", p.top, m, d)
			}
		}
	}
}

// Many volumes, in many orders: All tells them by rising numbers.
func TestManyVolumes(t *testing.T) {
	numbers := []uint64{1, 2, 3, 4, 5, 8, 13, 21, 100, 101, 102, 255, 256, 257, 1000, 1 << 16, 1 << 20, 1 << 31, 1<<31 + 1, mostVolume - 1, mostVolume}
	for seed := range 12 {
		r := rand.New(rand.NewSource(int64(seed)))
		made, gone := slices.Clone(numbers), slices.Clone(numbers)
		switch {
		case seed == 1:
			slices.Reverse(made)
		case seed == 2:
			slices.Reverse(gone)
		case seed > 2:
			r.Shuffle(len(made), func(i, j int) { made[i], made[j] = made[j], made[i] })
			r.Shuffle(len(gone), func(i, j int) { gone[i], gone[j] = gone[j], gone[i] })
		}
		p := newPool(t, 120, 32)
		for i, n := range made {
			p.create(n, int(n%257))
			if i%5 == seed%5 && p.list[n].size > 0 {
				p.write(n, p.list[n].size-1)
			}
			if seed%2 == 0 && i%4 == 3 {
				p.commit()
			}
			p.holds()
		}
		for i, n := range gone {
			p.delete(n)
			if seed%3 == 0 && i%4 == 3 {
				p.commit()
			}
			p.holds()
		}
		p.commit()
		if m, d := p.s.Room(); p.top != 0 || m != 117 || d != 32 {
			t.Errorf("behind all: the top %d, %d and %d free blocks", p.top, m, d)
		}
	}
}

// Maps of no level, of one, of two, of three, and of four: blocks mapped and let go in many orders.
func TestMaps(t *testing.T) {
	for _, many := range []int{1, 2, 6, 7, 20, 60, 140} {
		for seed := range 6 {
			blocks, gone := row(0, many-1, 1), row(0, many-1, 1)
			r := rand.New(rand.NewSource(int64(seed)))
			switch {
			case seed == 1:
				slices.Reverse(blocks)
			case seed == 2:
				slices.Reverse(gone)
			case seed > 2:
				r.Shuffle(many, func(i, j int) { blocks[i], blocks[j] = blocks[j], blocks[i] })
				r.Shuffle(many, func(i, j int) { gone[i], gone[j] = gone[j], gone[i] })
			}
			p := newPool(t, 160, 300)
			free, _ := p.s.Room()
			p.create(7, many)
			for i, b := range blocks {
				p.write(7, b)
				if seed%2 == 0 && i%11 == 10 {
					p.commit()
				}
			}
			p.holds()
			for i, b := range gone {
				p.unmap(7, b)
				if seed%3 == 0 && i%11 == 10 {
					p.commit()
				}
				if i%7 == 0 {
					p.holds()
				}
			}
			p.commit()
			p.holds()
			if m, d := p.s.Room(); m != free-1 || d != 300 {
				t.Errorf("behind all: %d and %d free blocks", m, d)
			}
			if t.Failed() {
				t.Fatalf("%d blocks, seed %d", many, seed)
			}
		}
	}
}

// The greatest volume of all, mapped from end to end.
func TestGreatestVolume(t *testing.T) {
	p := newPool(t, 240, 480)
	p.create(mostVolume, api.MaxSize)
	for i := range api.MaxSize {
		p.write(mostVolume, i*37%api.MaxSize)
		if i%60 == 59 {
			p.commit()
		}
	}
	p.holds()
	p.snap(mostVolume, 1)
	p.write(1, 0, 100, 255)
	p.holds()
	p.resize(mostVolume, 0)
	p.holds()
	p.resize(mostVolume, api.MaxSize)
	p.holds()
	p.delete(1)
	p.holds()
	p.commit()
	if _, d := p.s.Room(); d != 480 {
		t.Errorf("%d free data blocks", d)
	}
}

// Map over a block that is mapped: the elder data block is dropped, at once where it is fresh, behind a commit where it is not.
func TestMapAgain(t *testing.T) {
	for _, committed := range []bool{false, true} {
		p := newPool(t, 32, 8)
		p.create(1, 4)
		p.write(1, 2)
		old := p.list[1].blocks[2]
		if committed {
			p.commit()
		}
		p.write(1, 2)
		p.holds()
		if p.s.DataCount(old.data) != 0 {
			t.Errorf("the elder data block is named %d times", p.s.DataCount(old.data))
		}
		want := 7
		if committed {
			want = 6
		}
		if _, d := p.s.Room(); d != want {
			t.Errorf("committed %v: %d free data blocks; want %d", committed, d, want)
		}
		p.commit()
		if _, d := p.s.Room(); d != 7 {
			t.Errorf("behind a commit: %d free data blocks", d)
		}
	}
}

// Map of the data block that stands there already: of its two names one is left.
func TestMapTheSameDataBlock(t *testing.T) {
	p := newPool(t, 32, 8)
	p.create(1, 4)
	p.write(1, 2)
	p.snap(1, 2)
	p.write(2, 0)
	m := p.list[2].blocks[2]
	if p.s.DataCount(m.data) != 2 {
		t.Fatalf("named %d times", p.s.DataCount(m.data))
	}
	// The name that 2 has of it comes out of the tree, and is the test's.
	root, size, _, e := volume.Get(p.s, p.top, 2)
	must(t, e)
	root, _, _, e = btree.Delete(p.s, root, 2)
	must(t, e)
	p.top, _, _, e = btree.Put(p.s, p.top, api.NodeTop, 2, uint64(root)<<32+uint64(size))
	must(t, e)
	delete(p.list[2].blocks, 2)
	p.top, e = volume.Map(p.s, p.top, 1, 2, m.data)
	must(t, e)
	p.holds()
}

// Unmap of a block that is not mapped changes nothing, not even where there is no room.
func TestUnmapNothing(t *testing.T) {
	for _, committed := range []bool{false, true} {
		p := newPool(t, 64, 32)
		p.create(1, 20)
		p.create(2, 0)
		p.create(3, 9)
		p.write(1, row(0, 18, 2)...)
		if committed {
			p.commit()
		}
		fill(t, p.s, 0)
		unchanged(t, p.d, p.s, "Unmap of what is not mapped", func() {
			for _, b := range row(1, 19, 2) {
				if top, is, e := volume.Unmap(p.s, p.top, 1, b); top != p.top || is || e != api.OK {
					t.Errorf("Unmap(1, %d): %d, %v, errno %d; want %d, false", b, top, is, e, p.top)
				}
			}
			if top, is, e := volume.Unmap(p.s, p.top, 3, 8); top != p.top || is || e != api.OK {
				t.Errorf("Unmap(3, 8): %d, %v, errno %d; want %d, false", top, is, e, p.top)
			}
		})
	}
}

// A size that is made less, that is made more, that stays: what is cut off is not there when it is made more again.
func TestResize(t *testing.T) {
	for _, committed := range []bool{false, true} {
		for _, many := range []int{0, 1, 6, 7, 40} {
			for size := range many + 2 {
				p := newPool(t, 120, 64)
				p.create(1, 5)
				p.create(7, many)
				p.create(9, 5)
				p.write(7, row(0, many-1, 1)...)
				p.write(9, 4)
				if committed {
					p.commit()
				}
				_, was := p.s.Room()
				p.resize(7, size)
				p.holds()
				p.commit()
				if _, d := p.s.Room(); d != was+max(0, many-size) {
					t.Errorf("%d to %d: %d free data blocks; want %d", many, size, d, was+max(0, many-size))
				}
				p.resize(7, api.MaxSize)
				p.holds()
				if root, _, _, _ := volume.Get(p.s, p.top, 7); size == 0 && root != 0 {
					t.Errorf("all is cut off: the root %d", root)
				}
			}
		}
	}
}

// A size that stays changes nothing, not even where there is no room.
func TestSizeThatStays(t *testing.T) {
	p := newPool(t, 64, 8)
	p.create(1, 20)
	p.write(1, 0, 19)
	p.commit()
	fill(t, p.s, 0)
	unchanged(t, p.d, p.s, "a size that stays", func() { p.resize(1, 20) })
	shows(t, p.s, p.top, p.list)
}

// A size that cuts off nothing that is mapped leaves the map as it is.
func TestResizeBehindAllThatIsMapped(t *testing.T) {
	p := newPool(t, 64, 32)
	p.create(1, 100)
	p.write(1, row(0, 20, 1)...)
	p.commit()
	root, _, _, _ := volume.Get(p.s, p.top, 1)
	for _, size := range []int{99, 21, 22, 256, 21} {
		p.resize(1, size)
		if now, _, _, _ := volume.Get(p.s, p.top, 1); now != root {
			t.Errorf("the root is %d; want %d", now, root)
		}
		p.holds()
	}
	if p.s.Fresh() != 1 {
		t.Errorf("%d fresh nodes", p.s.Fresh())
	}
}

// A snapshot takes no data block, and no node but in the top tree; its map is the same one.
func TestSnap(t *testing.T) {
	for _, committed := range []bool{false, true} {
		p := newPool(t, 64, 32)
		p.create(5, 20)
		p.write(5, row(0, 19, 3)...)
		if committed {
			p.commit()
		}
		m, d := p.s.Room()
		root, _, _, _ := volume.Get(p.s, p.top, 5)
		p.snap(5, 1)
		p.snap(1, mostVolume)
		for _, n := range []uint64{1, 5, mostVolume} {
			if r, size, is, e := volume.Get(p.s, p.top, n); r != root || size != 20 || !is || e != api.OK {
				t.Errorf("Get(%d): %d, %d, %v, errno %d; want %d, 20", n, r, size, is, e, root)
			}
		}
		if p.s.Count(root) != 3 {
			t.Errorf("the map is named %d times", p.s.Count(root))
		}
		if committed {
			m-- // The top leaf is copied.
		}
		if m2, d2 := p.s.Room(); m2 != m || d2 != d {
			t.Errorf("%d and %d free blocks; want %d and %d", m2, d2, m, d)
		}
		p.holds()
	}
}

// A snapshot of an empty map has one, too.
func TestSnapOfAnEmptyMap(t *testing.T) {
	p := newPool(t, 32, 8)
	p.create(1, 3)
	p.create(4, 0)
	p.snap(1, 2)
	p.snap(4, 3)
	p.holds()
	p.write(2, 0)
	p.holds()
	p.write(1, 0)
	p.holds()
}

// P11.3

// What volumes share stays theirs until either is written, from either side, by whatever is done.
func TestWhatVolumesShare(t *testing.T) {
	acts := map[string]func(p *pool, v uint64){
		"written":         func(p *pool, v uint64) { p.write(v, 4) },
		"written anew":    func(p *pool, v uint64) { p.write(v, 5) },
		"let go":          func(p *pool, v uint64) { p.unmap(v, row(0, 38, 2)...) },
		"cut":             func(p *pool, v uint64) { p.resize(v, 7) },
		"cut to nothing":  func(p *pool, v uint64) { p.resize(v, 0) },
		"made more":       func(p *pool, v uint64) { p.resize(v, 256); p.write(v, 255) },
		"deleted":         func(p *pool, v uint64) { p.delete(v) },
		"snapped further": func(p *pool, v uint64) { p.snap(v, 77); p.write(77, 0); p.write(v, 0) },
	}
	for what, act := range acts {
		for _, other := range acts {
			for _, committed := range []bool{false, true} {
				for _, sides := range [][2]uint64{{1, 2}, {2, 1}, {3, 1}} {
					p := newPool(t, 120, 200)
					p.create(1, 40)
					p.write(1, row(0, 39, 2)...)
					p.snap(1, 2)
					p.snap(2, 3)
					if committed {
						p.commit()
					}
					act(p, sides[0])
					p.holds()
					if _, is := p.list[77]; !is {
						other(p, sides[1])
						p.holds()
					}
					p.commit()
					p.holds()
				}
			}
		}
		if t.Failed() {
			t.Fatal(what)
		}
	}
}

// A top that was held shows what it showed, whatever is done behind it.
func TestTopThatWasHeld(t *testing.T) {
	for _, committed := range []bool{false, true} {
		p := newPool(t, 200, 100)
		type kept struct {
			top  uint32
			list table
		}
		var held []kept
		tops := func() []uint32 {
			var l []uint32
			for _, k := range held {
				l = append(l, k.top)
			}
			return l
		}
		step := func(do func()) {
			t.Helper()
			held = append(held, kept{p.top, p.list.copied()})
			must(t, p.s.Hold(p.top))
			do()
			if committed {
				p.commit()
			}
			p.holds(tops()...)
			for _, k := range held {
				shows(t, p.s, k.top, k.list)
			}
		}
		step(func() { p.create(1, 30) })
		step(func() { p.write(1, row(0, 29, 3)...) })
		step(func() { p.snap(1, 5) })
		step(func() { p.write(1, 1, 3, 29) })
		step(func() { p.unmap(5, 0, 9) })
		step(func() { p.resize(5, 8) })
		step(func() { p.create(3, 2) })
		step(func() { p.delete(1) })
		step(func() { p.resize(5, 0) })
		step(func() { p.delete(5) })
		// The held ones change as any do, apart from the others.
		other := *p
		other.top, other.list = held[4].top, held[4].list.copied()
		must(t, p.s.Hold(other.top))
		other.write(1, 2)
		other.delete(5)
		other.holds(append(tops(), p.top)...)
		p.holds(append(tops(), other.top)...)
		must(t, p.s.Drop(other.top))
		for len(held) > 0 {
			must(t, p.s.Drop(held[0].top))
			held = held[1:]
			p.holds(tops()...)
			for _, k := range held {
				shows(t, p.s, k.top, k.list)
			}
		}
		p.delete(3)
		must(t, p.s.Commit(api.Super{}))
		if m, d := p.s.Room(); p.top != 0 || m != 196 || d != 100 {
			t.Errorf("behind all: the top %d, %d and %d free blocks", p.top, m, d)
		}
	}
}

// What comes out of the last volume that has it is free behind a commit; what another one has still is not.
func TestDataBlocksThatComeOut(t *testing.T) {
	takes := map[string]func(p *pool, v uint64){
		"Map":    func(p *pool, v uint64) { p.write(v, 3) },
		"Unmap":  func(p *pool, v uint64) { p.unmap(v, 3) },
		"Resize": func(p *pool, v uint64) { p.resize(v, 3) },
		"Delete": func(p *pool, v uint64) { p.delete(v) },
	}
	for what, take := range takes {
		for _, committed := range []bool{false, true} {
			p := newPool(t, 64, 16)
			p.create(1, 4)
			p.write(1, 1, 3)
			m := p.list[1].blocks[3].data
			p.snap(1, 2)
			if committed {
				p.commit()
			}
			take(p, 1)
			p.commit()
			if p.s.DataCount(m) != 1 {
				t.Errorf("%s: another one has it still, and it is named %d times", what, p.s.DataCount(m))
			}
			p.holds()
			take(p, 2)
			p.holds()
			p.commit()
			if p.s.DataCount(m) != 0 {
				t.Errorf("%s: nobody has it, and it is named %d times", what, p.s.DataCount(m))
			}
			p.holds()
			used := map[uint32]struct{}{}
			for _, v := range p.list {
				for _, b := range v.blocks {
					used[b.data] = struct{}{}
				}
			}
			if _, d := p.s.Room(); d != 16-len(used) {
				t.Errorf("%s: %d free data blocks; %d are used of 16", what, d, len(used))
			}
		}
	}
}

// It lasts: behind a commit, and opened anew, all volumes are as they were; what came behind it is not there.
func TestItLasts(t *testing.T) {
	p := newPool(t, 120, 64)
	for n := uint64(1); n <= 12; n++ {
		p.create(n*n, int(n*3))
		p.write(n*n, row(0, int(n*3)-1, 4)...)
	}
	p.snap(9, 10)
	p.write(10, 1)
	p.resize(49, 3)
	p.delete(16)
	p.commit()
	want := p.list.copied()
	p.delete(1)
	p.write(10, 2)
	p.create(99, 9)
	p.s = open(t, p.d)
	p.top, p.list = p.s.Super().Top, want
	p.holds()
	// It goes on.
	p.write(10, 2)
	p.create(99, 9)
	p.commit()
	p.s = open(t, p.d)
	p.top = p.s.Super().Top
	p.holds()
	// Abort goes back to the last commit.
	want = p.list.copied()
	top := p.top
	p.delete(99)
	p.resize(9, 0)
	p.s.Abort()
	p.top, p.list = top, want
	p.holds()
}

// Where the way to a volume is nobody else's, nothing is copied: the top stays the same node.
func TestInPlace(t *testing.T) {
	p := newPool(t, 32, 32)
	p.create(1, 60)
	p.write(1, row(0, 4, 1)...)
	fill(t, p.s, 0)
	top := p.top
	p.write(1, 5, 0)
	p.unmap(1, 1, 2)
	p.resize(1, 4)
	p.resize(1, 2)
	p.create(2, 3)
	p.delete(2)
	p.snap(1, 3)
	if p.top != top {
		t.Errorf("the top %d; want %d", p.top, top)
	}
	shows(t, p.s, p.top, p.list)
}
