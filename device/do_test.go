package device_test

import (
	"math"
	"testing"

	"voile/api"
	"voile/device"
)

// P14.1

// pool is a device with a volume of which some blocks are mapped, one of which none is, one of 0 blocks, and one of MaxSize.
func pool(t testing.TB) *pair {
	t.Helper()
	return made(t,
		creating(7, 20), writing(7, 3, some(6, 1)), writing(7, 40, some(8, 9)), zeroing(7, 79, 1),
		creating(8, 5), creating(9, 0),
		creating(mostVolume, 256), writing(mostVolume, 1020, some(4, 30)), writing(mostVolume, 1, some(1, 40)),
	)
}

func TestNew(t *testing.T) {
	p := newPair(t)
	p.shows()
	if p.d == nil || len(p.d.Volumes()) != 0 || len(gone(p.d, most)) != 0 {
		t.Errorf("New: %v", p.d)
	}
	p.fine(creating(1, 2))
	newPair(t).shows()
	p.shows()
}

// The chapter's example.
func TestExample(t *testing.T) {
	x := some(1, 5)
	p := made(t, creating(1, 2), writing(1, 4, x))
	p.reads(1, 0, row(noughts(4), x))
	p.maps(1, 1)
	p.shows()
}

// Each kind, over volumes with and without mapped blocks: the answer, and all that the device then shows.
func TestKinds(t *testing.T) {
	for _, v := range []uint64{7, 8, 9, mostVolume} {
		for _, o := range []api.Op{
			creating(1, 0), creating(1, 1), creating(3, 256), creating(mostVolume-1, 20),
			deleting(v), resizing(v, 0), resizing(v, 2), resizing(v, 20), resizing(v, 256),
			snapping(v, 1), snapping(v, mostVolume-1), flushing(),
		} {
			p := pool(t)
			p.fine(o)
			p.shows()
		}
	}
	for _, v := range []uint64{7, 8, mostVolume} {
		for _, at := range []int{0, 1, 4, 7} {
			for _, count := range []int{1, 3, 4, 5, 12} {
				for _, o := range []api.Op{writing(v, at, some(count, 77)), zeroing(v, at, count), reading(v, at, count), discarding(v, at%3, count/5+1)} {
					p := pool(t)
					p.fine(o)
					p.shows()
				}
			}
		}
	}
}

// Numbers are a device's own: all that may be are, and none is told apart from another by some of its bits alone.
func TestVolumes(t *testing.T) {
	p := newPair(t)
	numbers := []uint64{mostVolume, 1, 256, 1 << 31, 2, 65536, mostVolume - 1, 1<<31 - 1, 257, 1 << 24}
	for i, v := range numbers {
		p.fine(creating(v, i))
		if i > 0 {
			p.fine(writing(v, 0, some(min(4*i, 32), byte(i))))
		}
		p.shows()
	}
	for _, v := range numbers {
		p.fine(deleting(v))
		p.shows()
	}
}

// A volume that was deleted is made anew with nothing mapped.
func TestDeletedIsGone(t *testing.T) {
	p := pool(t)
	p.fine(deleting(7))
	p.wrong(reading(7, 0, 1), api.ErrNone)
	p.wrong(deleting(7), api.ErrNone)
	p.fine(creating(7, 20))
	p.maps(7)
	p.reads(7, 0, noughts(80))
	p.shows()
}

// Of a block of which some sectors are written the others stay as they read.
func TestOthersStay(t *testing.T) {
	for from := range 4 {
		for to := from + 1; to <= 4; to++ {
			data := some(to-from, 99)
			p := made(t, creating(1, 3), writing(1, 4+from, data))
			p.maps(1, 1)
			p.reads(1, 0, row(noughts(4+from), data, noughts(4-to+4)))
			p.shows()
			was := some(12, 3)
			p = made(t, creating(1, 3), writing(1, 0, was), writing(1, 4+from, data))
			p.maps(1, 0, 1, 2)
			p.reads(1, 0, row(was[:(4+from)*64], data, was[(4+to)*64:]))
			p.shows()
			p = made(t, creating(1, 3), writing(1, 0, was), zeroing(1, 4+from, to-from))
			p.maps(1, 0, 1, 2)
			p.reads(1, 0, row(was[:(4+from)*64], noughts(to-from), was[(4+to)*64:]))
			p.shows()
		}
	}
}

// A row over several blocks: each of which it has a sector is mapped, the first and the last one in part.
func TestRowOverBlocks(t *testing.T) {
	data := some(6, 20)
	p := made(t, creating(1, 4), writing(1, 3, data))
	p.maps(1, 0, 1, 2)
	p.reads(1, 0, row(noughts(3), data, noughts(7)))
	p.reads(1, 3, data)
	p.reads(1, 5, data[2*64:5*64])
	p.fine(writing(1, 6, some(2, 60)))
	p.reads(1, 0, row(noughts(3), data[:3*64], some(2, 60), data[5*64:], noughts(7)))
	p.shows()
}

// OpZero maps blocks as a write of noughts does, of however many sectors.
func TestZeroIsAWriteOfNoughts(t *testing.T) {
	for at := range 9 {
		for count := 1; count <= 32; count++ {
			p, o := pool(t), pool(t)
			p.fine(zeroing(7, at, count))
			o.fine(writing(7, at, noughts(count)))
			if !p.d.Same(o.d) {
				t.Errorf("OpZero of %d, %d is not as a write of noughts", at, count)
			}
		}
	}
	p := made(t, creating(1, 256), zeroing(1, 0, 1024))
	if l := p.d.Mapped(1); len(l) != 256 {
		t.Errorf("OpZero of MaxCount sectors: %v", l)
	}
	p.reads(1, 0, noughts(1024))
	p.shows()
}

// Noughts that are written are mapped, and not as what is not mapped.
func TestNoughtsAreMapped(t *testing.T) {
	p, o := made(t, creating(1, 2), writing(1, 4, noughts(1))), made(t, creating(1, 2))
	p.maps(1, 1)
	if b, is := p.d.Block(1, 1); b != (api.Block{}) || !is {
		t.Errorf("Block: %v, %v", b, is)
	}
	if b, is := o.d.Block(1, 1); b != (api.Block{}) || is {
		t.Errorf("Block: %v, %v", b, is)
	}
	p.reads(1, 0, noughts(8))
	if p.d.Same(o.d) {
		t.Error("a mapped block of noughts is as one that is not mapped")
	}
}

// What was unmapped reads as noughts; a sector that is written there then stands among noughts.
func TestDiscard(t *testing.T) {
	was := some(32, 4)
	p := made(t, creating(1, 8), writing(1, 0, was), discarding(1, 2, 3))
	p.maps(1, 0, 1, 5, 6, 7)
	p.reads(1, 0, row(was[:8*64], noughts(12), was[20*64:]))
	p.shows()
	p.fine(discarding(1, 2, 3))
	p.fine(discarding(1, 4, 1))
	p.maps(1, 0, 1, 5, 6, 7)
	p.fine(writing(1, 13, some(1, 50)))
	p.reads(1, 8, row(noughts(5), some(1, 50), noughts(6)))
	p.maps(1, 0, 1, 3, 5, 6, 7)
	p.shows()
	p.fine(discarding(1, 0, 8))
	p.maps(1)
	p.reads(1, 0, noughts(32))
	p.shows()
}

// What was cut off reads as noughts when the volume grows again.
func TestResize(t *testing.T) {
	was := some(32, 4)
	p := made(t, creating(1, 8), writing(1, 0, was), resizing(1, 8))
	p.reads(1, 0, was)
	p.fine(resizing(1, 3))
	p.maps(1, 0, 1, 2)
	p.reads(1, 0, was[:12*64])
	p.wrong(reading(1, 11, 2), api.ErrRange)
	p.shows()
	p.fine(resizing(1, 8))
	p.maps(1, 0, 1, 2)
	p.reads(1, 0, row(was[:12*64], noughts(20)))
	p.shows()
	p.fine(resizing(1, 0))
	p.maps(1)
	p.wrong(reading(1, 0, 1), api.ErrRange)
	p.shows()
	p.fine(resizing(1, 256))
	p.maps(1)
	p.reads(1, 0, noughts(1024))
	p.fine(writing(1, 1023, some(1, 8)))
	p.fine(resizing(1, 255))
	p.fine(resizing(1, 256))
	p.maps(1)
	p.reads(1, 1020, noughts(4))
	p.shows()
}

// A snapshot and its volume go on apart, both ways, whatever is done to either.
func TestSnapshotsGoApart(t *testing.T) {
	was := some(32, 4)
	changes := [][]api.Op{
		{writing(1, 5, some(2, 90))}, {writing(1, 0, some(32, 90))}, {zeroing(1, 6, 9)}, {discarding(1, 0, 8)}, {discarding(1, 1, 1)},
		{resizing(1, 3)}, {resizing(1, 0)}, {resizing(1, 9), writing(1, 32, some(4, 90))}, {deleting(1)}, {deleting(1), creating(1, 8)},
	}
	for _, l := range changes {
		for _, other := range []uint64{2, 1} {
			p := made(t, creating(1, 8), writing(1, 0, was), discarding(1, 4, 1), snapping(1, 2))
			p.reads(2, 0, row(was[:16*64], noughts(4), was[20*64:]))
			p.maps(2, 0, 1, 2, 3, 5, 6, 7)
			p.shows()
			for _, o := range l {
				// The one is changed, then the other one.
				o.Volume = 3 - other
				p.fine(o)
				p.shows()
			}
			p.reads(other, 0, row(was[:16*64], noughts(4), was[20*64:]))
			p.maps(other, 0, 1, 2, 3, 5, 6, 7)
		}
	}
}

func TestSnapshotsOfSnapshots(t *testing.T) {
	p := made(t, creating(1, 4), writing(1, 0, some(4, 1)), snapping(1, 2), writing(1, 0, some(4, 2)), snapping(2, 3), writing(2, 1, some(1, 3)), snapping(1, 4), deleting(1))
	p.reads(2, 0, row(some(4, 1)[:64], some(1, 3), some(4, 1)[128:]))
	p.reads(3, 0, some(4, 1))
	p.reads(4, 0, some(4, 2))
	p.fine(snapping(3, 1))
	p.fine(zeroing(3, 2, 1))
	p.reads(1, 0, some(4, 1))
	p.shows()
}

// sizes are volumes' sizes about the edges.
func sizes() []int { return []int{0, 1, 2, 3, 8, 9, 32, 255, 256} }

// fits does an operation that is done just if it ends at the volume's end, or ahead of it.
func fits(t testing.TB, size, end, room int, o api.Op) {
	t.Helper()
	p := made(t, creating(1, size))
	if size > 0 {
		p.fine(writing(1, size*4-1, some(1, 50)))
	}
	if end > room {
		p.wrong(o, api.ErrRange)
	} else {
		p.fine(o)
	}
	p.shows()
}

// Rows of sectors that end just at the volume's end, and one ahead of it and behind it.
func TestRowsAtTheEnd(t *testing.T) {
	for _, size := range sizes() {
		for _, count := range []int{1, 2, 4, 5, 31, 32, 33, 1023, 1024} {
			for _, about := range []int{-1, 0, 1} {
				at := size*4 - count + about
				if at < 0 {
					at = 0
				}
				end := at + count
				fits(t, size, end, size*4, zeroing(1, at, count))
				fits(t, size, end, size*4, reading(1, at, count))
				if count <= 32 {
					fits(t, size, end, size*4, writing(1, at, some(count, 7)))
				}
			}
		}
	}
}

// Rows of blocks, likewise.
func TestBlocksAtTheEnd(t *testing.T) {
	for _, size := range sizes() {
		for _, count := range []int{1, 2, 8, 255, 256, 257, 1024} {
			for _, about := range []int{-1, 0, 1} {
				at := max(size-count+about, 0)
				fits(t, size, at+count, size, discarding(1, at, count))
			}
		}
	}
}

// Rows that begin at the volume's end, behind it, at MaxAt.
func TestRowsBehindTheEnd(t *testing.T) {
	for _, size := range sizes() {
		p := made(t, creating(1, size))
		for _, at := range []int{size * 4, size*4 + 1, size*4 + 4, 1<<20 - 1, 1 << 20} {
			for _, count := range []int{1, 4, 32} {
				p.wrong(zeroing(1, at, count), api.ErrRange)
				p.wrong(reading(1, at, count), api.ErrRange)
				p.wrong(writing(1, at, some(count, 1)), api.ErrRange)
				p.wrong(discarding(1, at, count), api.ErrRange)
			}
			p.wrong(zeroing(1, at, 1024), api.ErrRange)
			p.wrong(reading(1, at, 1024), api.ErrRange)
			p.wrong(discarding(1, at, 1024), api.ErrRange)
		}
		for _, at := range []int{size, size + 1} {
			p.wrong(discarding(1, at, 1), api.ErrRange)
		}
		p.shows()
	}
}

// A row of MaxWrite sectors, of MaxCount ones: all are there, and no other.
func TestLongRows(t *testing.T) {
	p := made(t, creating(1, 256))
	var all []byte
	for i := range 32 {
		data := some(32, byte(i*5))
		p.fine(writing(1, i*32, data))
		all = append(all, data...)
	}
	p.reads(1, 0, all)
	p.shows()
	p.fine(writing(1, 1, some(32, 200)))
	p.reads(1, 0, row(all[:64], some(32, 200), all[33*64:]))
	p.fine(zeroing(1, 3, 1020))
	p.reads(1, 0, row(all[:64], some(32, 200)[:128], noughts(1020), all[1023*64:]))
	p.shows()
	p.fine(discarding(1, 1, 255))
	p.maps(1, 0)
	p.shows()
}

// notOps are operations that may not be; each would be done, or have another error, but for one field.
func notOps() []api.Op {
	l := []api.Op{
		{}, {Kind: -1}, {Kind: 10}, {Kind: 10, Volume: 7}, {Kind: math.MaxInt, Volume: 7}, {Kind: 1 << 32, Volume: 7},
		creating(0, 1), creating(1<<32, 1), creating(1<<32+7, 1), creating(math.MaxUint64, 1), creating(1, -1), creating(1, 257), creating(1, 1<<32),
		deleting(0), deleting(1<<32 + 7), resizing(7, -1), resizing(7, 257), resizing(1<<32+7, 1), resizing(7, math.MinInt), resizing(7, most),
		snapping(7, 7), snapping(7, 0), snapping(0, 7), snapping(7, 1<<32+1), snapping(1<<32+7, 1),
		writing(7, 0, nil), writing(7, 0, make([]byte, 63)), writing(7, 0, make([]byte, 65)), writing(7, 0, some(33, 1)), writing(7, -1, some(1, 1)), writing(7, 1<<20+1, some(1, 1)), writing(7, most, some(1, 1)), writing(7, math.MinInt, some(1, 1)), writing(1<<32+7, 0, some(1, 1)),
		{Kind: api.OpFlush, Volume: 7}, {Kind: api.OpFlush, Data: some(1, 1)},
		{Kind: api.OpWrite, Volume: 7, Count: 1, Data: some(1, 1)}, {Kind: api.OpWrite, Volume: 7, To: 1, Data: some(1, 1)}, {Kind: api.OpWrite, Volume: 7, Size: 1, Data: some(1, 1)},
		{Kind: api.OpDelete, Volume: 7, Size: 1}, {Kind: api.OpDelete, Volume: 7, To: 1}, {Kind: api.OpCreate, Volume: 1, Size: 1, Count: 1}, {Kind: api.OpCreate, Volume: 1, At: 1}, {Kind: api.OpResize, Volume: 7, Data: some(1, 1)}, {Kind: api.OpSnap, Volume: 7, To: 1, Size: 1},
	}
	for _, at := range []func(v uint64, at, count int) api.Op{zeroing, discarding, reading} {
		l = append(l, at(7, 0, 0), at(7, 0, -1), at(7, 0, 1025), at(7, 0, most), at(7, -1, 1), at(7, -1, 2), at(7, 1<<20+1, 1), at(7, most, 1), at(7, most, most), at(7, math.MinInt, 1), at(0, 0, 1), at(1<<32+7, 0, 1), at(7, 1<<32, 1), at(7, 0, 1<<32+1))
		o := at(7, 0, 1)
		o.Data = some(1, 1)
		other := at(7, 0, 1)
		other.To = 8
		l = append(l, o, other)
	}
	return l
}

func TestMayNotBe(t *testing.T) {
	p := pool(t)
	for _, o := range notOps() {
		p.wrong(o, api.ErrArg)
	}
	p.shows()
}

// named are operations of each kind that names a volume.
func named(v uint64) []api.Op {
	return []api.Op{deleting(v), resizing(v, 3), snapping(v, 100), writing(v, 0, some(1, 1)), zeroing(v, 0, 1), discarding(v, 0, 1), reading(v, 0, 1)}
}

func TestNoVolume(t *testing.T) {
	for _, p := range []*pair{pool(t), newPair(t)} {
		for _, v := range []uint64{1, 6, 10, mostVolume - 1, 1 << 31} {
			for _, o := range named(v) {
				p.wrong(o, api.ErrNone)
			}
		}
		p.shows()
	}
}

func TestExists(t *testing.T) {
	p := pool(t)
	for _, v := range p.d.Volumes() {
		for _, size := range []int{0, 1, 20, 256} {
			p.wrong(creating(v, size), api.ErrExists)
		}
		for _, to := range p.d.Volumes() {
			if to != v {
				p.wrong(snapping(v, to), api.ErrExists)
			}
		}
	}
	p.shows()
}

// Of several errors that could be told, the one that comes first: no device, what may not be, no such volume, what is there, behind the end.
func TestOrderOfErrors(t *testing.T) {
	p := pool(t)
	// May not be, and no such volume.
	for _, o := range []api.Op{resizing(1, 257), snapping(1, 1), writing(1, 0, nil), writing(1, -1, some(1, 1)), zeroing(1, 0, 0), discarding(1, -1, 1), reading(1, 0, 1025), {Kind: api.OpDelete, Volume: 1, At: 1}} {
		p.wrong(o, api.ErrArg)
	}
	// May not be, and is there.
	for _, o := range []api.Op{creating(7, -1), creating(7, 257), {Kind: api.OpCreate, Volume: 7, To: 8}, {Kind: api.OpSnap, Volume: 7, To: 8, At: 1}} {
		p.wrong(o, api.ErrArg)
	}
	// May not be, and ends behind the end.
	for _, o := range []api.Op{writing(9, 0, make([]byte, 65)), writing(7, 80, some(33, 1)), zeroing(7, 1<<20+1, 1), zeroing(7, 0, 1025), reading(7, 80, 0), discarding(7, 0, 1025), discarding(7, 1<<20+1, 1)} {
		p.wrong(o, api.ErrArg)
	}
	// May not be, no such volume, and To is there.
	p.wrong(api.Op{Kind: api.OpSnap, Volume: 1, To: 7, Count: 1}, api.ErrArg)
	// No such volume, and To is there.
	p.wrong(snapping(1, 7), api.ErrNone)
	// No such volume, and no volume could be so long.
	for _, o := range []api.Op{writing(1, 1<<20, some(1, 1)), zeroing(1, 1024, 1), discarding(1, 256, 1), reading(1, 0, 1024), discarding(1, 1<<20, 1024)} {
		p.wrong(o, api.ErrNone)
	}
	p.shows()
	// No device, and all of these.
	for _, d := range []*device.Device{nil, {}} {
		for _, o := range append(notOps(), snapping(1, 7), writing(1, 1<<20, some(1, 1)), flushing(), creating(1, 1)) {
			refusedByNone(t, d, o)
		}
	}
}
