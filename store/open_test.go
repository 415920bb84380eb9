package store_test

import (
	"math"
	"testing"

	"voile/api"
	"voile/block"
	"voile/disk"
	"voile/page"
	"voile/store"
	"voile/super"
)

// P8.1

// The example of the chapter.
func TestExample(t *testing.T) {
	d := newDisk(t, 4*26)
	must(t, store.Format(d, 16, 8))
	room(t, open(t, d), 13, 8)
}

// rubbish is a disk each sector of which has bytes of its own, that last.
func rubbish(t testing.TB, sectors int) *disk.Disk {
	t.Helper()
	d := newDisk(t, sectors)
	for i := range sectors {
		must(t, d.Write(i, api.Sector{0: byte(i + 1), 1: byte(i >> 8), 63: 200}))
	}
	must(t, d.Flush())
	return d
}

func TestFormatBlockByBlock(t *testing.T) {
	for _, x := range []struct{ meta, data, metaPages, dataPages int }{
		{16, 1, 1, 1}, {16, 8, 1, 1}, {16, 480, 1, 4}, {120, 120, 1, 1}, {121, 120, 2, 1}, {120, 121, 1, 2}, {240, 240, 2, 2}, {240, 241, 2, 3}, {240, 360, 2, 3}, {240, 361, 2, 4}, {240, 480, 2, 4},
	} {
		d := rubbish(t, 4*(2+x.meta+x.data)+9)
		before := d.Copy()
		must(t, store.Format(d, x.meta, x.data))
		if len(d.Open()) != 0 || d.Dead() {
			t.Errorf("%v: not flushed", x)
		}
		want := api.Super{Tx: 1, Meta: x.meta, Data: x.data}
		counts := make([]uint16, x.meta)
		for i := range x.metaPages + x.dataPages + 1 {
			counts[i] = 1
			if i > 0 {
				want.Pages[i-1] = uint32(i)
			}
		}
		slot, e := super.Block(want)
		must(t, e)
		blocks := map[int]api.Block{0: {}, 1: slot}
		for i := range x.metaPages {
			blocks[2+1+i] = pageOf(t, uint32(1+i), i, counts)
		}
		for i := range x.dataPages {
			blocks[2+1+x.metaPages+i] = pageOf(t, uint32(1+x.metaPages+i), i, make([]uint16, x.data))
		}
		for n := range d.Sectors() / 4 {
			right, is := blocks[n]
			if !is {
				right = read(t, before, n)
			}
			if b := read(t, d, n); b != right {
				t.Errorf("%v: block %d: %x; want %x", x, n, b, right)
			}
		}
		for i := d.Sectors() / 4 * 4; i < d.Sectors(); i++ {
			a, _ := d.Read(i)
			if b, _ := before.Read(i); a != b {
				t.Errorf("%v: sector %d is changed", x, i)
			}
		}
		s := open(t, d)
		room(t, s, x.meta-1-x.metaPages-x.dataPages, x.data)
		if s.Super() != want || s.Fresh() != 0 || s.Broken() {
			t.Errorf("%v: %v", x, s.Super())
		}
	}
}

// pageOf is a page's block, of an area's counts.
func pageOf(t testing.TB, no uint32, index int, counts []uint16) api.Block {
	t.Helper()
	b, e := page.Block(no, index, page.Part(counts, index))
	must(t, e)
	return b
}

func TestFormatOfWhatMayNotBe(t *testing.T) {
	dead := rubbish(t, 8000)
	kill(t, dead)
	for _, areas := range [][2]int{
		{15, 8}, {0, 8}, {-1, 8}, {math.MinInt, 8}, {241, 8}, {1 << 40, 8}, {math.MaxInt, 8},
		{16, 0}, {16, -1}, {16, math.MinInt}, {16, 481}, {16, 1 << 40}, {16, math.MaxInt}, {math.MaxInt, math.MaxInt}, {0, 0},
	} {
		for _, d := range []*disk.Disk{rubbish(t, 8000), dead} {
			before := d.Copy()
			if e := store.Format(d, areas[0], areas[1]); e != api.ErrArg || !same(d, before) {
				t.Errorf("%v: errno %d; want ErrArg, and nothing", areas, e)
			}
		}
		should(t, "Format of no disk", store.Format(nil, areas[0], areas[1]), api.ErrNil)
		should(t, "Format of a zero disk", store.Format(&disk.Disk{}, areas[0], areas[1]), api.ErrNil)
	}
	should(t, "Format of no disk", store.Format(nil, 16, 8), api.ErrNil)
	should(t, "Format of a zero disk", store.Format(&disk.Disk{}, 16, 8), api.ErrNil)
	before := dead.Copy()
	if e := store.Format(dead, 16, 8); e != api.ErrDead || !same(dead, before) {
		t.Errorf("a dead disk: errno %d", e)
	}
}

func TestFormatOfASmallDisk(t *testing.T) {
	for _, areas := range [][2]int{{16, 1}, {16, 8}, {240, 480}} {
		least := 4 * (2 + areas[0] + areas[1])
		for _, sectors := range []int{1, 7, 8, least - 4, least - 1} {
			d := rubbish(t, sectors)
			before := d.Copy()
			if e := store.Format(d, areas[0], areas[1]); e != api.ErrArg || !same(d, before) {
				t.Errorf("%v, %d sectors: errno %d", areas, sectors, e)
			}
		}
		must(t, store.Format(rubbish(t, least), areas[0], areas[1]))
	}
}

// A Format of a disk with a store leaves nothing of it that counts.
func TestFormatAnew(t *testing.T) {
	for commits := range 4 {
		d, s := small(t)
		for range commits {
			commit(t, s, add(t, s, leaf()))
		}
		must(t, store.Format(d, 20, 4))
		s = open(t, d)
		room(t, s, 17, 4)
		if x := s.Super(); x != (api.Super{Tx: 1, Meta: 20, Data: 4, Pages: [6]uint32{1, 2}}) || read(t, d, 0) != (api.Block{}) {
			t.Errorf("%v; %x", x, read(t, d, 0))
		}
	}
}

func TestOpenOfWhatIsNone(t *testing.T) {
	refuseOpen(t, nil, api.ErrNil, "no disk")
	refuseOpen(t, &disk.Disk{}, api.ErrNil, "a zero disk")
	refuseOpen(t, newDisk(t, 8), api.ErrNone, "noughts")
	refuseOpen(t, rubbish(t, 400), api.ErrNone, "bytes")
	refuseOpen(t, rubbish(t, 8), api.ErrNone, "bytes")
	for sectors := 1; sectors < 8; sectors++ {
		refuseOpen(t, newDisk(t, sectors), api.ErrArg, "not both slots")
	}
	// A superblock that counts, of areas that need more than there is, whatever lies where its pages should.
	for _, areas := range [][2]int{{16, 8}, {240, 480}} {
		least := 4 * (2 + areas[0] + areas[1])
		for _, sectors := range []int{8, least - 4, least - 1} {
			d := newDisk(t, sectors)
			must(t, super.Save(d, api.Super{Tx: 1, Meta: areas[0], Data: areas[1], Pages: [6]uint32{1, 2, 3, 4, 5, 6}}))
			refuseOpen(t, d, api.ErrArg, "a small disk")
		}
	}
	// Neither slot counts any more, wherever all else stands.
	d, _ := small(t)
	lay(t, d, 1, api.Block{})
	refuseOpen(t, d, api.ErrNone, "no superblock")
}

// crafted is a disk of 16 and 8 blocks whose superblock, counts and blocks are as they are changed: all sums are right.
func crafted(t testing.TB, change func(x *image)) *disk.Disk {
	t.Helper()
	d := format(t, 16, 8, 0)
	x := &image{super: api.Super{Tx: 1, Meta: 16, Data: 8, Pages: [6]uint32{1, 2}}, meta: make([]uint16, 120), data: make([]uint16, 120), blocks: map[int]api.Block{}, metaNo: 1, dataNo: 2, metaAt: 1, dataAt: 2}
	copy(x.meta, []uint16{1, 1, 1})
	change(x)
	for _, y := range []struct {
		no, at uint32
		index  int
		counts []uint16
	}{{x.metaNo, x.metaAt, x.metaIndex, x.meta}, {x.dataNo, x.dataAt, x.dataIndex, x.data}} {
		b, e := page.Block(y.no, y.index, y.counts)
		must(t, e)
		lay(t, d, 2+int(y.at), b)
	}
	for n, b := range x.blocks {
		lay(t, d, n, b)
	}
	must(t, super.Save(d, x.super))
	return d
}

// image is what a disk is crafted of: the pages' counts, their numbers, indexes, and where they lie.
type image struct {
	super                api.Super
	meta, data           []uint16
	metaNo, dataNo       uint32
	metaAt, dataAt       uint32
	metaIndex, dataIndex int
	blocks               map[int]api.Block
}

func TestOpenOfWhatIsNotSound(t *testing.T) {
	open(t, crafted(t, func(x *image) {}))
	for why, change := range map[string]func(x *image){
		"a page of another number":           func(x *image) { x.metaNo = 2 },
		"a data page of another number":      func(x *image) { x.dataNo = 1 },
		"a page of another index":            func(x *image) { x.metaIndex = 1 },
		"a data page of another index":       func(x *image) { x.dataIndex = 1 },
		"a page that lies elsewhere":         func(x *image) { x.metaAt = 3; x.blocks[2+1] = api.Block{} },
		"a data page that lies elsewhere":    func(x *image) { x.dataAt = 3; x.blocks[2+2] = api.Block{} },
		"a page of noughts":                  func(x *image) { x.blocks[2+1] = api.Block{} },
		"a data page of noughts":             func(x *image) { x.blocks[2+2] = api.Block{} },
		"a page of bytes":                    func(x *image) { x.blocks[2+1] = api.Block{9, 9, 9} },
		"counts behind the area":             func(x *image) { x.meta[16] = 1 },
		"counts far behind the area":         func(x *image) { x.meta[119] = 1 },
		"counts behind the data area":        func(x *image) { x.data[8] = 1 },
		"counts far behind the data area":    func(x *image) { x.data[119] = 65535 },
		"block 0 is named by none":           func(x *image) { x.meta[0] = 0 },
		"block 0 is named twice":             func(x *image) { x.meta[0] = 2 },
		"block 0 is named 65535 times":       func(x *image) { x.meta[0] = 65535 },
		"a page's block is named by none":    func(x *image) { x.meta[1] = 0 },
		"a page's block is named twice":      func(x *image) { x.meta[1] = 2 },
		"a data page's block named by none":  func(x *image) { x.meta[2] = 0 },
		"a data page's block is named twice": func(x *image) { x.meta[2] = 2 },
		"a Top that is named by none":        func(x *image) { x.super.Top = 3 },
		"a Base that is named by none":       func(x *image) { x.super.Base = 15 },
		"a Stage that is named by none":      func(x *image) { x.super.Stage = 4 },
		"pages in the block 0":               func(x *image) { x.super.Pages[0], x.metaAt, x.metaNo = 0, 0, 0 },
		"data pages in the block 0":          func(x *image) { x.super.Pages[1], x.dataAt, x.dataNo = 0, 0, 0 },
		"pages nowhere":                      func(x *image) { x.super.Pages = [6]uint32{} },
		"a page where none lies":             func(x *image) { x.super.Pages[0] = 9 },
		"a data page where none lies":        func(x *image) { x.super.Pages[1] = 9 },
		"pages that have changed places":     func(x *image) { x.super.Pages = [6]uint32{2, 1}; x.meta[5] = 3 },
		"a page where a node lies":           func(x *image) { x.blocks[2+1] = blockOf(t, 1, leaf()) },
		"all of it":                          func(x *image) { clear(x.meta); x.super.Top = 9 },
		"an elder one that is sound":         func(x *image) { x.super.Tx, x.super.Pages = 2, [6]uint32{5, 6}; x.at(5, 6) },
	} {
		refuseOpen(t, crafted(t, change), api.ErrSound, why)
	}
	// What is sound, if barely.
	for why, change := range map[string]func(x *image){
		"pages elsewhere":         func(x *image) { x.super.Pages = [6]uint32{15, 9}; x.at(15, 9); x.meta[15], x.meta[9] = 1, 1 },
		"roots that are named":    func(x *image) { x.super.Top, x.super.Base, x.super.Stage = 3, 3, 4; x.meta[3], x.meta[4] = 1, 9 },
		"counts at the edges":     func(x *image) { x.meta[15], x.data[7], x.data[0] = 65535, 65535, 65535 },
		"pages that are not read": func(x *image) { x.super.Pages[5] = 15 },
	} {
		d := crafted(t, change)
		before := d.Copy()
		open(t, d)
		if !same(d, before) {
			t.Errorf("%s: Open changed the disk", why)
		}
	}
}

// at lays the pages into other blocks.
func (x *image) at(meta, data uint32) {
	x.metaNo, x.metaAt, x.dataNo, x.dataAt = meta, meta, data, data
}

func blockOf(t testing.TB, no uint32, n api.Node) api.Block {
	t.Helper()
	b, e := block.Block(no, n)
	must(t, e)
	return b
}

// Both areas' pages are read, each where it lies.
func TestOpenOfManyPages(t *testing.T) {
	d := format(t, 240, 480, 0)
	s := open(t, d)
	// Each page of both areas gets counts of its own.
	for range 230 {
		add(t, s, leaf())
	}
	for range 480 {
		addData(t, s, api.Block{})
	}
	for _, n := range []uint32{7, 119, 120, 121, 236} {
		for range n {
			must(t, s.Hold(n))
		}
	}
	for _, n := range []uint32{0, 119, 121, 240, 359, 361, 479} {
		must(t, s.DropData(n))
	}
	// The pages need 6 free ones.
	for n := range uint32(12) {
		must(t, s.Free(200+n))
	}
	commit(t, s, 0)
	o := open(t, d)
	for n := range uint32(240) {
		if o.Count(n) != s.Count(n) {
			t.Errorf("block %d: %d; want %d", n, o.Count(n), s.Count(n))
		}
	}
	for n := range uint32(480) {
		if o.DataCount(n) != s.DataCount(n) {
			t.Errorf("data block %d: %d; want %d", n, o.DataCount(n), s.DataCount(n))
		}
	}
	if o.Count(120) != 121 || o.Count(7) != 8 || o.DataCount(120) != 1 || o.DataCount(121) != 0 || o.Super() != s.Super() {
		t.Error(o.Count(120), o.DataCount(121))
	}
}

// The data cursor is as it was at the last commit, the metadata one 0.
func TestCursorsBehindOpen(t *testing.T) {
	d, s := small(t)
	a, b := addData(t, s, api.Block{}), addData(t, s, api.Block{})
	must(t, s.DropData(a))
	must(t, s.DropData(b))
	n := add(t, s, leaf())
	commit(t, s, n)
	if x := s.Super(); n != 3 || x.Cursor != 2 || x.Pages != [6]uint32{4, 5} {
		t.Fatal(n, x)
	}
	// Here both go on; in one that is opened the metadata one begins at 0.
	if m, x := add(t, s, leaf()), addData(t, s, api.Block{}); m != 6 || x != 2 {
		t.Errorf("%d, %d", m, x)
	}
	o := open(t, d)
	if m, x := add(t, o, leaf()), addData(t, o, api.Block{}); m != 1 || x != 2 {
		t.Errorf("opened: %d, %d", m, x)
	}
	// What is not committed leaves the cursor on the disk.
	if x := open(t, d).Super(); x.Cursor != 2 {
		t.Error(x)
	}
}
