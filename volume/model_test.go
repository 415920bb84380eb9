package volume_test

import (
	"maps"
	"math/rand"
	"reflect"
	"slices"
	"testing"

	"voile/api"
	"voile/volume"
)

// kept is a top of a world, which the world names once, and what it shows, plainly.
type kept struct {
	top  uint32
	list table
}

// world is a store with three tops in it, and plain tables of what each shows.
type world struct {
	t     testing.TB
	p     *pool // its store; top and list are not used
	tops  [3]kept
	lasts [3]kept
	next  func(n int) int
	full  int
	done  int
}

func newWorld(t testing.TB, meta, data int, next func(n int) int) *world {
	w := &world{t: t, p: newPool(t, meta, data), next: next}
	for i := range w.tops {
		w.tops[i].list = table{}
	}
	w.keep()
	return w
}

// keep keeps what was committed.
func (w *world) keep() {
	for i, x := range w.tops {
		w.lasts[i] = kept{x.top, x.list.copied()}
	}
}

// back goes back to what was committed.
func (w *world) back() {
	for i, x := range w.lasts {
		w.tops[i] = kept{x.top, x.list.copied()}
	}
}

// number is a volume's number, mostly one that may be.
func (w *world) number() uint64 {
	return []uint64{1, 2, 3, 4, 5, 6, 7, 1 << 20, 1 << 31, mostVolume - 1, mostVolume, 0, 1 << 32, most}[w.next(11+w.next(4))]
}

// there is the number of a volume that a table has, mostly.
func (w *world) there(l table) uint64 {
	if numbers := slices.Sorted(maps.Keys(l)); len(numbers) > 0 && w.next(8) > 0 {
		return numbers[w.next(len(numbers))]
	}
	return w.number()
}

func (w *world) size() int {
	return []int{0, 1, 2, 8, 30, 60, 120, 255, 256, -1, 257}[w.next(9+w.next(3))]
}

// block is a block, mostly one that a volume has.
func (w *world) block(size int) int {
	if size > 0 && w.next(10) > 0 {
		return w.next(size)
	}
	return size - 1 + w.next(3)
}

// wrongNumber tells why a volume can't be asked for.
func wrongNumber(l table, v uint64) api.Errno {
	if v == 0 || v > mostVolume {
		return api.ErrArg
	}
	if _, is := l[v]; !is {
		return api.ErrNone
	}
	return api.OK
}

// act does something to the world.
func (w *world) act() {
	w.t.Helper()
	x := &w.tops[w.next(len(w.tops))]
	v := w.there(x.list)
	b := w.block(x.list[v].size)
	switch w.next(32) {
	case 0, 1, 2:
		w.create(x)
	case 3:
		w.took(x, deleting(v), answer{}, wrongNumber(x.list, v), func() { delete(x.list, v) })
	case 4, 5:
		w.resize(x, v)
	case 6, 7:
		w.snap(x, v)
	case 8, 9:
		w.copyOf(x)
	case 10:
		w.commit()
	case 11:
		w.forget()
	case 12, 13, 14, 15, 16:
		w.unmap(x, v, b)
	default:
		w.write(x, v, b)
	}
}

// took calls something that changes a top, and takes it up, if there was room; want is what it answers besides, and why it is refused.
func (w *world) took(x *kept, c call, beside answer, want api.Errno, change func()) api.Errno {
	w.t.Helper()
	was, before := looksOf(w.p.s), w.p.d.Copy()
	a := c.do(w.p.s, x.top)
	if a.e == api.ErrFull && want == api.OK {
		// What is refused for want of room needs more than there is: no call needs so many blocks.
		if was.Meta > 25 {
			w.t.Errorf("%s: %d blocks are free, and it is refused", c.what, was.Meta)
		}
		want = api.ErrFull
		w.full++
	}
	if want != api.OK {
		if !reflect.DeepEqual(a, answer{e: want}) {
			w.t.Errorf("%s: %+v; want errno %d alone", c.what, a, want)
		}
		same(w.t, w.p.d, w.p.s, c.what, was, before)
		return want
	}
	beside.root = a.root
	if !reflect.DeepEqual(a, beside) {
		w.t.Fatalf("%s: %+v; want %+v", c.what, a, beside)
	}
	x.top = a.root
	change()
	w.done++
	return api.OK
}

func (w *world) create(x *kept) {
	w.t.Helper()
	v, size := w.number(), w.size()
	want := wrongNumber(x.list, v)
	switch {
	case size < 0 || size > api.MaxSize:
		want = api.ErrArg
	case want == api.ErrNone:
		want = api.OK
	case want == api.OK:
		want = api.ErrExists
	}
	w.took(x, creating(v, size), answer{}, want, func() { x.list[v] = plain{size, map[int]mapped{}} })
}

func (w *world) resize(x *kept, v uint64) {
	w.t.Helper()
	size := w.size()
	want := wrongNumber(x.list, v)
	if size < 0 || size > api.MaxSize {
		want = api.ErrArg
	}
	w.took(x, resizing(v, size), answer{}, want, func() { x.list.resize(v, size) })
}

func (w *world) snap(x *kept, v uint64) {
	w.t.Helper()
	to := w.number()
	want, other := wrongNumber(x.list, v), wrongNumber(x.list, to)
	switch {
	case v == to || other == api.ErrArg:
		want = api.ErrArg
	case want == api.OK && other == api.OK:
		want = api.ErrExists
	}
	w.took(x, snapping(v, to), answer{}, want, func() {
		x.list[to] = plain{x.list[v].size, maps.Clone(x.list[v].blocks)}
	})
}

func (w *world) write(x *kept, v uint64, b int) {
	w.t.Helper()
	if _, d := w.p.s.Room(); d == 0 {
		w.full++
		return
	}
	m := w.p.data()
	want := wrongNumber(x.list, v)
	if want == api.OK && (b < 0 || b >= x.list[v].size) {
		want = api.ErrRange
	}
	e := w.took(x, mapping(v, b, m.data), answer{}, want, func() { x.list[v].blocks[b] = m })
	if e != api.OK {
		// It is the test's still.
		must(w.t, w.p.s.DropData(m.data))
	}
}

func (w *world) unmap(x *kept, v uint64, b int) {
	w.t.Helper()
	if l := slices.Sorted(maps.Keys(x.list[v].blocks)); len(l) > 0 && w.next(3) > 0 {
		b = l[w.next(len(l))]
	}
	want := wrongNumber(x.list, v)
	if want == api.OK && (b < 0 || b >= x.list[v].size) {
		want = api.ErrRange
	}
	_, is := x.list[v].blocks[b]
	w.took(x, unmapping(v, b), answer{is: is}, want, func() { delete(x.list[v].blocks, b) })
}

// copyOf lets a top be as another one is: that one is held.
func (w *world) copyOf(x *kept) {
	w.t.Helper()
	y := w.tops[w.next(len(w.tops))]
	must(w.t, w.p.s.Hold(y.top))
	must(w.t, w.p.s.Drop(x.top))
	*x = kept{y.top, y.list.copied()}
}

func (w *world) commit() {
	w.t.Helper()
	e := w.p.s.Commit(api.Super{Top: w.tops[0].top, Base: w.tops[1].top, Stage: w.tops[2].top})
	if e == api.ErrFull {
		w.full++
		w.back()
		return
	}
	must(w.t, e)
	w.keep()
}

// forget goes back to the last commit: by an Abort, or as the disk is opened anew.
func (w *world) forget() {
	w.t.Helper()
	if w.next(3) > 0 {
		return
	}
	if w.next(2) == 0 {
		w.p.s.Abort()
	} else {
		w.p.s = open(w.t, w.p.d)
	}
	w.back()
}

// check holds each top against its table, and the counts against the names; it changes nothing.
func (w *world) check() {
	w.t.Helper()
	unchanged(w.t, w.p.d, w.p.s, "looks", func() {
		for _, x := range w.tops {
			shows(w.t, w.p.s, x.top, x.list)
		}
		counted(w.t, w.p.s, w.tops[0].top, w.tops[1].top, w.tops[2].top)
	})
}

// let lets all tops go: all blocks are free then.
func (w *world) let() {
	w.t.Helper()
	s := w.p.s
	for i := range w.tops {
		must(w.t, s.Drop(w.tops[i].top))
	}
	if s.Commit(api.Super{}) == api.ErrFull {
		return
	}
	x := s.Super()
	pages := 0
	for _, n := range x.Pages {
		if n != 0 {
			pages++
		}
	}
	if m, d := s.Room(); m != x.Meta-1-pages || d != x.Data {
		w.t.Errorf("all tops are dropped: %d and %d blocks are free, of %d and %d", m, d, x.Meta, x.Data)
	}
}

// The volumes are those of plain tables, whatever is done.
func TestWorldsByChance(t *testing.T) {
	done, full := 0, 0
	for seed := range 60 {
		r := rand.New(rand.NewSource(int64(seed)))
		w := newWorld(t, []int{16, 40, 90, 240}[seed%4], []int{8, 60, 480}[seed%3], r.Intn)
		for range 250 {
			w.act()
			if r.Intn(5) == 0 {
				w.check()
			}
			if t.Failed() {
				t.Fatalf("seed %d", seed)
			}
		}
		w.check()
		w.let()
		done, full = done+w.done, full+w.full
	}
	if done < 5000 || full < 100 {
		t.Errorf("only %d acts done, %d without room", done, full)
	}
}

// One top alone, which is changed again and again without a commit, or with one behind each step.
func TestOneTopByChance(t *testing.T) {
	for seed := range 6 {
		r := rand.New(rand.NewSource(int64(seed)))
		w := newWorld(t, 240, 480, r.Intn)
		for i := range 200 {
			x := &w.tops[0]
			v := w.there(x.list)
			if i%4 == 0 {
				w.create(x)
			} else {
				for range 3 {
					w.write(x, v, w.block(x.list[v].size))
				}
				w.unmap(x, v, w.block(x.list[v].size))
			}
			if i%30 == 29 {
				w.resize(x, v)
			}
			if seed%3 > 0 && i%seed == 0 {
				w.commit()
			}
			if i%10 == 0 {
				w.check()
			}
			if t.Failed() {
				t.Fatalf("seed %d", seed)
			}
		}
		w.check()
		w.let()
	}
}

// What is told is the caller's: to change it changes nothing.
func TestAllIsTheCallers(t *testing.T) {
	p := newPool(t, 64, 8)
	for n := uint64(1); n < 9; n++ {
		p.create(n, int(n))
	}
	l, e := volume.All(p.s, p.top)
	must(t, e)
	clear(l)
	p.holds()
}

// FuzzVolume does what bytes tell.
func FuzzVolume(f *testing.F) {
	f.Add(uint8(0), uint8(3), []byte{1, 2, 3})
	f.Add(uint8(60), uint8(50), []byte("some volumes are made, and written; snapshots of them are written, too; some tops are as others are"))
	f.Fuzz(func(t *testing.T, meta, data uint8, l []byte) {
		l = l[:min(len(l), 2000)]
		at := 0
		w := newWorld(t, 16+int(meta)%225, 8+int(data), func(n int) int {
			if at == len(l) {
				return 0
			}
			at++
			return int(l[at-1]) % n
		})
		for at < len(l) {
			w.act()
		}
		w.check()
		w.let()
	})
}
