package super_test

import (
	"encoding/binary"
	"hash/crc32"
	"math"
	"math/rand"
	"slices"
	"testing"

	"voile/api"
	"voile/disk"
	"voile/super"
)

func refuseOf(t *testing.T, b api.Block, why string) {
	t.Helper()
	if s, e := super.Of(b); e != api.ErrBytes || s != (api.Super{}) {
		t.Errorf("%s: Of(%x): %v, %v; want ErrBytes alone", why, b, s, e)
	}
}

func loads(t *testing.T, d *disk.Disk, want api.Super, why string) {
	t.Helper()
	before := d.Copy()
	if s, e := super.Load(d); e != api.OK || s != want {
		t.Errorf("%s: Load: %v, %v; want %v", why, s, e, want)
	}
	if !same(d, before) {
		t.Errorf("%s: Load changed the disk", why)
	}
}

func loadsNone(t *testing.T, d *disk.Disk, want api.Errno, why string) {
	t.Helper()
	if s, e := super.Load(d); e != want || s != (api.Super{}) {
		t.Errorf("%s: Load: %v, %v; want %v alone", why, s, e, want)
	}
}

// P5.1

func TestBlockByteByByte(t *testing.T) {
	var want api.Block
	copy(want[4:], "VOIL"+"\x08\x07\x06\x05\x04\x03\x02\x01"+"\xf0\x00\x00\x00"+"\xe0\x01\x00\x00"+
		"\x01\x00\x00\x00"+"\x02\x00\x00\x00"+"\x03\x00\x00\x00"+"\x04\x00\x00\x00"+"\x05\x00\x00\x00"+"\xef\x00\x00\x00"+
		"\x11\x00\x00\x00"+"\x22\x00\x00\x00"+"\x33\x00\x00\x00"+"\xdf\x01\x00\x00"+
		"\x88\x77\x66\x55\x44\x33\x22\x11"+"\x98\x87\x76\x65\x54\x43\x32\x21"+"\x08\x97\x86\x75\x64\x53\x42\x31"+
		"\x18\x07\x96\x85\x74\x63\x52\x41"+"\x28\x17\x06\x95\x84\x73\x62\x51"+"\x01")
	if b, e := super.Block(full()); e != api.OK || b != sum(want) {
		t.Errorf("%x, %v; want %x", b, e, sum(want))
	}
	if s, e := super.Of(sum(want)); e != api.OK || s != full() {
		t.Errorf("%v, %v; want %v", s, e, full())
	}
}

func TestBlockIsAsTheWordsTellIt(t *testing.T) {
	for _, s := range rights() {
		if !plainMay(s) || !super.May(s) {
			t.Errorf("%v may not be", s)
		}
		b, e := super.Block(s)
		if e != api.OK || b != plain(s) {
			t.Errorf("Block(%v): %x, %v; want %x", s, b, e, plain(s))
		}
		if back, e := super.Of(b); e != api.OK || back != s {
			t.Errorf("Of the block of %v: %v, %v", s, back, e)
		}
	}
}

func TestWhatMayNotBe(t *testing.T) {
	for why, s := range wrongs() {
		if super.May(s) {
			t.Errorf("%s: may be", why)
		}
		if b, e := super.Block(s); e != api.ErrArg || b != (api.Block{}) {
			t.Errorf("%s: Block: %x, %v; want ErrArg alone", why, b, e)
		}
		if laid(s) {
			refuseOf(t, plain(s), why)
		}
	}
}

// Each number that has bounds, at all numbers about them.
func TestBounds(t *testing.T) {
	for n := -3; n <= 500; n++ {
		may := func(s api.Super, want bool, what string) {
			t.Helper()
			if super.May(s) != want {
				t.Errorf("%s %d: %v", what, n, !want)
			}
		}
		s := least()
		s.Meta = n
		may(s, n >= 16 && n <= 240, "Meta")
		s = least()
		s.Data = n
		may(s, n >= 1 && n <= 480, "Data")
		for _, data := range []int{1, 2, 40, 480} {
			s = least()
			s.Data, s.Cursor = data, n
			may(s, n >= 0 && n < data, "Cursor")
		}
		for _, meta := range []int{16, 17, 240} {
			at := []*uint32{&s.Top, &s.Base, &s.Stage, &s.Pages[0], &s.Pages[1], &s.Pages[2], &s.Pages[3], &s.Pages[4], &s.Pages[5]}
			for _, p := range at {
				s = least()
				s.Meta = meta
				*p = uint32(n)
				may(s, n >= 0 && n < meta, "a block")
			}
		}
	}
}

// Whichever byte is changed: of the sum, of the letters, of what is told, of the noughts.
func TestOfAChangedByte(t *testing.T) {
	for _, s := range rights() {
		b := plain(s)
		for at := range b {
			for bit := range 8 {
				c := b
				c[at] ^= 1 << bit
				refuseOf(t, c, "a bit is turned")
			}
			c := b
			c[at] ^= 255
			refuseOf(t, c, "a byte is turned")
		}
	}
}

// A right sum alone makes no superblock's block.
func TestOfWrongBytesWithTheirSum(t *testing.T) {
	for _, s := range []api.Super{full(), least(), of(2, 7)} {
		b := plain(s)
		change := func(at int, to byte) api.Block {
			c := b
			c[at] = to
			return sum(c)
		}
		for at := 4; at < 8; at++ {
			for to := range 256 {
				if byte(to) != b[at] {
					refuseOf(t, change(at, byte(to)), "other letters")
				}
			}
		}
		for to := 2; to < 256; to++ {
			refuseOf(t, change(104, byte(to)), "a mark that is none")
		}
		for at := 105; at < 256; at++ {
			refuseOf(t, change(at, 1), "noughts that are none")
			refuseOf(t, change(at, 255), "noughts that are none")
		}
		// The highest bytes of what has bounds.
		for at := 19; at < 64; at += 4 {
			refuseOf(t, change(at, 1), "far above")
			refuseOf(t, change(at, 128), "far above")
		}
		refuseOf(t, change(15, 64), "a Tx above")
		refuseOf(t, change(15, 128), "a Tx above")
		// What else has a right sum says something that may be.
		for _, at := range []int{8, 64, 71, 72, 79, 80, 87, 88, 95, 96, 103} {
			c := change(at, b[at]^9)
			if o, e := super.Of(c); e != api.OK || o == s || plain(o) != c {
				t.Errorf("byte %d: %v, %v", at, o, e)
			}
		}
	}
}

// A sum of other bytes, or laid in another order, is not the sum.
func TestOfAnotherSum(t *testing.T) {
	castagnoli := crc32.MakeTable(crc32.Castagnoli)
	for _, s := range rights() {
		b := plain(s)
		c := b
		slices.Reverse(c[:4])
		refuseOf(t, c, "a sum the other way round")
		for why, n := range map[string]uint32{
			"another polynomial's":         crc32.ChecksumIEEE(b[4:]),
			"a sum without the letters":    crc32.Checksum(b[8:], castagnoli),
			"a sum without the noughts":    crc32.Checksum(b[4:105], castagnoli),
			"a sum of the first sector":    crc32.Checksum(b[4:64], castagnoli),
			"a sum of the own place too":   crc32.Checksum(append(make([]byte, 4), b[4:]...), castagnoli),
			"a sum that is one too much":   crc32.Checksum(b[4:], castagnoli) + 1,
			"a sum all of whose bits turn": ^crc32.Checksum(b[4:], castagnoli),
			"no sum":                       0,
		} {
			binary.LittleEndian.PutUint32(c[:], n)
			refuseOf(t, c, why)
		}
	}
}

func TestOfNoBlock(t *testing.T) {
	var ones api.Block
	for i := range ones {
		ones[i] = 255
	}
	for _, b := range []api.Block{{}, sum(api.Block{}), ones, sum(ones), sum(api.Block{4: 'V', 5: 'O', 6: 'I', 7: 'L'})} {
		refuseOf(t, b, "none's")
	}
}

func TestBlocks(t *testing.T) {
	for _, x := range [][3]int{{16, 8, 26}, {16, 1, 19}, {240, 480, 722}, {0, 0, 2}, {1, 0, 3}, {0, 1, 3}} {
		if n := super.Blocks(x[0], x[1]); n != x[2] {
			t.Errorf("Blocks(%d, %d): %d; want %d", x[0], x[1], n, x[2])
		}
	}
}

// P5.1: whatever superblock.
func TestRandomSupers(t *testing.T) {
	r := rand.New(rand.NewSource(5))
	for range 20000 {
		s := random(r)
		b, e := super.Block(s)
		if may := plainMay(s); super.May(s) != may || may != (e == api.OK) {
			t.Fatalf("%v: may %v, %v", s, super.May(s), e)
		}
		back, ok := plainOf(plain(s))
		if got, e := super.Of(plain(s)); ok != (e == api.OK) || ok && got != back || !ok && got != (api.Super{}) {
			t.Fatalf("Of the bytes of %v: %v, %v", s, got, e)
		}
		if e == api.OK && (b != plain(s) || back != s) {
			t.Fatalf("%v: %x; back %v", s, b, back)
		}
	}
}

// random is a superblock that may be more often than not.
func random(r *rand.Rand) api.Super {
	s := api.Super{Tx: 1 + r.Uint64()>>uint(2+r.Intn(62)), Meta: 16 + r.Intn(225), Data: 1 + r.Intn(480)}
	s.Cursor = r.Intn(s.Data)
	at := []*uint32{&s.Top, &s.Base, &s.Stage, &s.Pages[0], &s.Pages[1], &s.Pages[2], &s.Pages[3], &s.Pages[4], &s.Pages[5]}
	for _, p := range at {
		*p = uint32(r.Intn(s.Meta))
	}
	s.State = api.State{Epoch: r.Uint64(), Last: r.Uint64() >> 40, Seq: r.Uint64(), BaseLast: r.Uint64(), BaseSeq: r.Uint64(), Marked: r.Intn(2) == 1}
	switch r.Intn(20) {
	case 0:
		s.Tx = r.Uint64()
	case 1:
		s.Meta = r.Intn(300) - 20
	case 2:
		s.Data = r.Intn(600) - 40
	case 3:
		s.Cursor = r.Intn(600) - 40
	case 4:
		*at[r.Intn(len(at))] = uint32(r.Intn(300))
	case 5:
		*at[r.Intn(len(at))] = r.Uint32()
	}
	return s
}

// P5.2

// The example of the chapter.
func TestExample(t *testing.T) {
	d := newDisk(t, 8, true)
	save(t, d, of(1, 0))
	save(t, d, of(2, 0))
	loads(t, d, of(2, 0), "1, 2")
}

func TestLoadIsOfTheSlotsThatCount(t *testing.T) {
	d := newDisk(t, 12, true)
	loadsNone(t, d, api.ErrNone, "noughts")
	loadsNone(t, newDisk(t, 12, false), api.ErrNone, "other bytes")
	slot := func(blocks map[int]api.Block) *disk.Disk {
		d := newDisk(t, 12, false)
		for n, b := range blocks {
			lay(t, d, n, b)
		}
		return d
	}
	one, two, three, last := of(1, 1), of(2, 2), of(3, 3), of(1<<62, 4)
	bad := plain(three)
	bad[100] ^= 1
	none := of(3, 9)
	none.Meta = 15
	loads(t, slot(map[int]api.Block{1: plain(one)}), one, "slot 1 alone")
	loads(t, slot(map[int]api.Block{0: plain(two)}), two, "slot 0 alone")
	loads(t, slot(map[int]api.Block{0: plain(two), 1: plain(one)}), two, "slot 0 is greater")
	loads(t, slot(map[int]api.Block{0: plain(two), 1: plain(three)}), three, "slot 1 is greater")
	loads(t, slot(map[int]api.Block{0: plain(last), 1: plain(three)}), last, "2^62")
	loads(t, slot(map[int]api.Block{0: plain(two), 1: plain(of(1<<62-1, 4))}), of(1<<62-1, 4), "2^62 - 1")
	loads(t, slot(map[int]api.Block{0: plain(two), 1: bad}), two, "slot 1 is none's")
	loads(t, slot(map[int]api.Block{0: plain(two), 1: plain(none)}), two, "slot 1 may not be")
	loads(t, slot(map[int]api.Block{0: plain(two), 1: plain(of(4, 1))}), two, "slot 1 has slot 0's")
	loads(t, slot(map[int]api.Block{0: plain(of(5, 1)), 1: plain(one)}), one, "slot 0 has slot 1's")
	loadsNone(t, slot(map[int]api.Block{0: plain(one), 1: plain(two)}), api.ErrNone, "both have the other one's")
	loadsNone(t, slot(map[int]api.Block{0: plain(one), 1: bad}), api.ErrNone, "one has the other one's")
	loadsNone(t, slot(map[int]api.Block{1: plain(none), 0: bad}), api.ErrNone, "neither counts")
	loadsNone(t, slot(map[int]api.Block{2: plain(two)}), api.ErrNone, "another block")
	// What is read counts, whether it lasts or not, and of a dead disk too.
	d = slot(map[int]api.Block{1: plain(one)})
	must(t, super.Write(d, 0, plain(two)))
	loads(t, d, two, "not flushed")
	must(t, d.Fuse(0))
	if e := d.Flush(); e != api.ErrDead {
		t.Fatal(e)
	}
	loads(t, d, two, "dead")
	must(t, d.Crash(nil))
	loads(t, d, one, "behind a loss of power")
}

func TestLoadOfEachSuper(t *testing.T) {
	for _, s := range rights() {
		for _, noughts := range []bool{true, false} {
			d := newDisk(t, 20, noughts)
			before := d.Copy()
			save(t, d, s)
			loads(t, d, s, "saved")
			slot := int(s.Tx % 2)
			if onDisk(t, d, slot) != plain(s) || len(d.Open()) != 0 {
				t.Errorf("%v: %x; open %v", s, onDisk(t, d, slot), d.Open())
			}
			for n := range 5 {
				if n != slot && onDisk(t, d, n) != onDisk(t, before, n) {
					t.Errorf("%v: block %d is changed", s, n)
				}
			}
			must(t, d.Crash([]int{1, 1, 1, 1}))
			loads(t, d, s, "it lasts")
		}
	}
}

// before are disks ahead of a Save into slot 1, with what stands there.
func before(t testing.TB) map[string]*disk.Disk {
	t.Helper()
	wrong := of(3, 3)
	wrong.Cursor = wrong.Data
	torn := plain(of(3, 3))
	copy(torn[64:], make([]byte, 192))
	behind := plain(of(3, 3))
	clear(behind[:64])
	first := api.Block{63: 1}
	l := map[string]*disk.Disk{}
	for why, b := range map[string]api.Block{
		"noughts":                        {},
		"a superblock":                   plain(of(3, 3)),
		"one of the same Tx":             plain(of(5, 9)),
		"one of a greater Tx":            plain(of(7, 9)),
		"one of the other slot's Tx":     plain(of(4, 3)),
		"one that may not be":            plain(wrong),
		"a torn one":                     torn,
		"a torn one without its first":   behind,
		"one byte, the first":            {0: 1},
		"one byte, the first's last":     first,
		"one byte, the second's first":   {64: 1},
		"one byte, the last's last":      {255: 1},
		"bytes everywhere":               onDisk(t, newDisk(t, 8, false), 1),
		"a node's sum, and other things": sum(api.Block{4: 2, 12: 1}),
	} {
		d := newDisk(t, 12, false)
		lay(t, d, 0, plain(of(4, 4)))
		lay(t, d, 1, b)
		l[why] = d
	}
	return l
}

// Each step of a Save, at every fuse: in the words' order, and none more.
func TestSaveStepByStep(t *testing.T) {
	s := of(5, 5)
	for why, d := range before(t) {
		steps := plainSave(t, d, s)
		if len(steps) != 5 && len(steps) != 7 {
			t.Fatal(why, len(steps))
		}
		for fuse := range len(steps) + 3 {
			got, want := d.Copy(), d.Copy()
			must(t, got.Fuse(fuse))
			must(t, want.Fuse(fuse))
			e, o := super.Save(got, s), do(want, steps)
			if e != o || !same(got, want) || (e == api.OK) != (fuse >= len(steps)) {
				t.Errorf("%s, fuse %d: %v; want %v; open %v; want %v", why, fuse, e, o, got.Open(), want.Open())
			}
			// How many steps are left is the same, too.
			for range 3 {
				if e, o := got.Write(11, api.Sector{1}), want.Write(11, api.Sector{1}); e != o {
					t.Errorf("%s, fuse %d: a step behind it: %v; want %v", why, fuse, e, o)
				}
			}
			// The versions of each sector are the same, as each pick shows.
			for pick := range 3 {
				a, b := got.Copy(), want.Copy()
				picks := []int{pick, pick, pick, pick, pick, pick, pick, pick}
				must(t, a.Crash(picks))
				must(t, b.Crash(picks))
				if !same(a, b) {
					t.Errorf("%s, fuse %d, pick %d: another version", why, fuse, pick)
				}
			}
		}
	}
}

func TestReadAndWrite(t *testing.T) {
	b := full()
	want := plain(b)
	for sectors := 1; sectors <= 20; sectors++ {
		for n := -3; n <= 6; n++ {
			d := newDisk(t, sectors, false)
			before := d.Copy()
			has := n >= 0 && 4*n+4 <= sectors
			got, e := super.Read(d, n)
			if has && (e != api.OK || got != onDisk(t, d, n)) || !has && (e != api.ErrArg || got != (api.Block{})) {
				t.Errorf("Read(%d) of %d sectors: %x, %v", n, sectors, got, e)
			}
			if !same(d, before) {
				t.Errorf("Read(%d) of %d sectors changed the disk", n, sectors)
			}
			e = super.Write(d, n, want)
			if !has {
				if e != api.ErrArg || !same(d, before) {
					t.Errorf("Write(%d) of %d sectors: %v; want ErrArg, and nothing", n, sectors, e)
				}
				continue
			}
			if e != api.OK || onDisk(t, d, n) != want || !slices.Equal(d.Open(), []int{4 * n, 4*n + 1, 4*n + 2, 4*n + 3}) {
				t.Errorf("Write(%d) of %d sectors: %v, open %v", n, sectors, e, d.Open())
			}
			if got, e := super.Read(d, n); e != api.OK || got != want {
				t.Errorf("Read(%d) behind it: %x, %v", n, got, e)
			}
			must(t, d.Crash(nil))
			if !same(d, before) {
				t.Errorf("Write(%d) of %d sectors lasts, or writes elsewhere", n, sectors)
			}
		}
	}
}

// Blocks whose sectors' numbers would come to be some that there are.
func TestReadAndWriteFarOff(t *testing.T) {
	for _, n := range []int{math.MinInt, math.MinInt + 1, math.MinInt / 4, -1 << 62, -1, 2, 1 << 30, 1 << 61, 1 << 62, 1<<62 + 1, math.MaxInt / 4, math.MaxInt} {
		d := newDisk(t, 8, false)
		before := d.Copy()
		if b, e := super.Read(d, n); e != api.ErrArg || b != (api.Block{}) {
			t.Errorf("Read(%d): %x, %v", n, b, e)
		}
		if e := super.Write(d, n, plain(full())); e != api.ErrArg || !same(d, before) {
			t.Errorf("Write(%d): %v", n, e)
		}
	}
}

// A Write is four steps, in the sectors' order; the one that finds none left is refused.
func TestWriteStepByStep(t *testing.T) {
	b := plain(full())
	// The noughts are written, too.
	for _, noughts := range []bool{true, false} {
		for fuse := range 7 {
			d := newDisk(t, 12, noughts)
			must(t, d.Fuse(fuse))
			e := super.Write(d, 1, b)
			if fuse >= 4 && e != api.OK || fuse < 4 && e != api.ErrDead || d.Dead() != (fuse < 4) {
				t.Errorf("fuse %d: %v", fuse, e)
			}
			if open := d.Open(); !slices.Equal(open, []int{4, 5, 6, 7}[:min(fuse, 4)]) {
				t.Errorf("fuse %d: open %v", fuse, open)
			}
			for i := range min(fuse, 4) {
				if s, e := d.Read(4 + i); e != api.OK || s != api.Sector(b[64*i:]) {
					t.Errorf("fuse %d: sector %d: %x, %v", fuse, 4+i, s, e)
				}
			}
			before := d.Copy()
			if e := super.Write(d, 1, b); fuse <= 4 && e != api.ErrDead || fuse <= 4 && !d.Dead() {
				t.Errorf("fuse %d, once more: %v", fuse, e)
			}
			if fuse < 4 && !same(d, before) {
				t.Errorf("fuse %d: a dead disk is written", fuse)
			}
		}
	}
}

func TestNoDisk(t *testing.T) {
	for _, d := range []*disk.Disk{nil, {}} {
		loadsNone(t, d, api.ErrNil, "no disk")
		for _, n := range []int{-1, 0, 1, math.MaxInt} {
			if b, e := super.Read(d, n); e != api.ErrNil || b != (api.Block{}) {
				t.Errorf("Read(%d): %x, %v", n, b, e)
			}
			if e := super.Write(d, n, api.Block{1}); e != api.ErrNil {
				t.Errorf("Write(%d): %v", n, e)
			}
		}
		if e := super.Save(d, full()); e != api.ErrNil {
			t.Errorf("Save: %v", e)
		}
		for why, s := range wrongs() {
			if e := super.Save(d, s); e != api.ErrNil {
				t.Errorf("%s: Save: %v", why, e)
			}
		}
	}
}

func TestSaveOfWhatMayNotBe(t *testing.T) {
	dead := newDisk(t, 12, false)
	must(t, dead.Fuse(0))
	if e := dead.Flush(); e != api.ErrDead {
		t.Fatal(e)
	}
	for _, d := range []*disk.Disk{newDisk(t, 12, false), newDisk(t, 3, false), dead} {
		for why, s := range wrongs() {
			before := d.Copy()
			if e := super.Save(d, s); e != api.ErrArg || !same(d, before) {
				t.Errorf("%s: Save: %v; want ErrArg, and nothing", why, e)
			}
		}
	}
}

// A dead disk is read still, and written no more.
func TestDeadDisk(t *testing.T) {
	for why, d := range before(t) {
		must(t, d.Fuse(0))
		if e := d.Flush(); e != api.ErrDead {
			t.Fatal(e)
		}
		before := d.Copy()
		loads(t, d, must2(plainLoad(t, d)), why)
		if b, e := super.Read(d, 0); e != api.OK || b != plain(of(4, 4)) {
			t.Errorf("%s: Read: %x, %v", why, b, e)
		}
		for _, s := range []api.Super{of(5, 5), of(6, 6)} {
			if e := super.Save(d, s); e != api.ErrDead || !same(d, before) {
				t.Errorf("%s: Save: %v; want ErrDead, and nothing", why, e)
			}
		}
		if e := super.Write(d, 0, api.Block{}); e != api.ErrDead || !same(d, before) {
			t.Errorf("%s: Write: %v; want ErrDead, and nothing", why, e)
		}
		if e := super.Write(d, 3, api.Block{}); e != api.ErrArg {
			t.Errorf("%s: Write of a block that there is not: %v", why, e)
		}
	}
}

func must2(s api.Super, e api.Errno) api.Super {
	if e != api.OK {
		panic(e)
	}
	return s
}

// A disk that has not both slots.
func TestSmallDisk(t *testing.T) {
	for sectors := 1; sectors < 8; sectors++ {
		d := newDisk(t, sectors, true)
		loadsNone(t, d, api.ErrArg, "a small disk")
		before := d.Copy()
		if e := super.Save(d, of(1, 1)); e != api.ErrArg || !same(d, before) {
			t.Errorf("Save into slot 1 of %d sectors: %v", sectors, e)
		}
		e := super.Save(d, of(2, 2))
		if sectors < 4 && (e != api.ErrArg || !same(d, before)) || sectors >= 4 && (e != api.OK || onDisk(t, d, 0) != plain(of(2, 2))) {
			t.Errorf("Save into slot 0 of %d sectors: %v", sectors, e)
		}
		loadsNone(t, d, api.ErrArg, "a small disk with a superblock")
	}
}

// P5.3

// crashes are the disks that a Save leaves if the power goes ahead of some step of it, by every pick of every sector; the last ones are those behind all of it.
func crashes(t testing.TB, d *disk.Disk, s api.Super, do func(d *disk.Disk, e api.Errno)) {
	t.Helper()
	for fuse := 0; ; fuse++ {
		torn := d.Copy()
		must(t, torn.Fuse(fuse))
		e := super.Save(torn, s)
		// No step writes a sector more than once between two flushes, so each has two versions.
		open := len(torn.Open())
		if open > 4 {
			t.Fatalf("%d open sectors", open)
		}
		for bits := range 1 << open {
			left := torn.Copy()
			picks := make([]int, open)
			for i := range picks {
				picks[i] = bits >> i & 1
			}
			must(t, left.Crash(picks))
			do(left, e)
		}
		if e == api.OK {
			return
		}
	}
}

// counts is what counts on a disk, by the call and by the words; the zero one where none does.
func counts(t testing.TB, d *disk.Disk) api.Super {
	t.Helper()
	s, e := super.Load(d)
	want, o := plainLoad(t, d)
	if s != want || e != o {
		t.Fatalf("Load: %v, %v; want %v, %v", s, e, want, o)
	}
	return s
}

// firsts are disks with what counts on them, and what may be saved next, of one Tx: some alike in one sector or the other.
func firsts(t testing.TB) map[string]*disk.Disk {
	t.Helper()
	noughts, bytes := newDisk(t, 8, true), newDisk(t, 8, false)
	one := bytes.Copy()
	save(t, one, of(4, 4))
	both := one.Copy()
	save(t, both, of(3, 3))
	alike := newDisk(t, 8, true)
	save(t, alike, of(3, 5))
	save(t, alike, of(4, 4))
	l := map[string]*disk.Disk{"noughts": noughts, "bytes": bytes, "one": one, "both": both, "alike": alike}
	for why, d := range before(t) {
		// A slot with a greater Tx of its own counts, and the next is not of this Tx.
		if counts(t, d) == of(4, 4) {
			l[why] = d
		}
	}
	return l
}

// nexts are superblocks of Tx 5: some alike in their first sector but the sum, some in all sectors else.
func nexts() []api.Super {
	state := of(5, 5)
	state.State.Seq = 77
	other := of(5, 6)
	other.State.Seq = 77
	marked := of(5, 5)
	marked.State.Marked = true
	return []api.Super{of(5, 5), of(5, 6), state, other, marked}
}

// The power goes at every step of a Save, and then, wherever what counts is as it was, at every step of another one's.
func TestLossOfPower(t *testing.T) {
	for why, d := range firsts(t) {
		was := counts(t, d)
		for i, a := range nexts() {
			for j, b := range nexts() {
				if i == j {
					continue
				}
				lossOfPower(t, why, d, was, a, b)
			}
		}
	}
}

func lossOfPower(t *testing.T, why string, d *disk.Disk, was, a, b api.Super) {
	t.Helper()
	seen := map[api.Super]int{}
	crashes(t, d, a, func(left *disk.Disk, e api.Errno) {
		now := counts(t, left)
		seen[now]++
		if now != was && now != a || e == api.OK && now != a {
			t.Fatalf("%s: %v counted, %v was saved (%v): %v counts", why, was, a, e, now)
		}
		if now == a {
			return
		}
		crashes(t, left, b, func(left *disk.Disk, e api.Errno) {
			if now := counts(t, left); now != was && now != b || e == api.OK && now != b {
				t.Fatalf("%s: %v counted, %v and %v were saved (%v): %v counts", why, was, a, b, e, now)
			}
		})
	})
	if seen[was] == 0 || seen[a] == 0 {
		t.Fatalf("%s: what counts was never one of both: %v", why, seen)
	}
}

// A long row of Saves, each of which may be torn: what counts is what counted, or the one that was saved.
func TestManyLosses(t *testing.T) {
	r := rand.New(rand.NewSource(53))
	for range 300 {
		d := newDisk(t, 8+r.Intn(9), r.Intn(2) == 0)
		was := api.Super{}
		for range 60 {
			// Few numbers, so that sectors of two are often the same.
			s := of(was.Tx+1, uint32(r.Intn(2)))
			s.State.Seq = uint64(r.Intn(2))
			steps := r.Intn(12)
			must(t, d.Fuse(steps))
			e := super.Save(d, s)
			if e != api.OK && e != api.ErrDead {
				t.Fatal(e)
			}
			must(t, d.Crash([]int{r.Int(), r.Int(), r.Int(), r.Int()}))
			now := counts(t, d)
			if now != was && now != s || e == api.OK && now != s {
				t.Fatalf("%v counted, %v was saved (%v): %v counts", was, s, e, now)
			}
			was = now
		}
	}
}

// P0.6

func FuzzSuper(f *testing.F) {
	all, few := plain(full()), plain(least())
	f.Add(all[:], few[:], true, true, 3, 1, uint64(5))
	f.Add(few[:], all[:], false, true, 0, 0, uint64(1<<62))
	f.Add([]byte{}, []byte("....VOIL"), true, false, 9, -7, uint64(0))
	f.Fuzz(func(t *testing.T, first, second []byte, right, also bool, fuse, pick int, tx uint64) {
		d := newDisk(t, 8, true)
		for slot, l := range [][]byte{first, second} {
			var b api.Block
			copy(b[:], l)
			if slot == 0 && right || slot == 1 && also {
				copy(b[4:], "VOIL")
				b = sum(b)
			}
			lay(t, d, slot, b)
			want, ok := plainOf(b)
			s, e := super.Of(b)
			if ok && (e != api.OK || s != want || !super.May(s)) || !ok && (e != api.ErrBytes || s != (api.Super{})) {
				t.Fatalf("Of(%x): %v, %v", b, s, e)
			}
		}
		was := counts(t, d)
		s := of(tx, 3)
		want := d.Copy()
		fuse &= 7
		must(t, d.Fuse(fuse))
		must(t, want.Fuse(fuse))
		e, o := super.Save(d, s), api.ErrArg
		if plainMay(s) {
			o = do(want, plainSave(t, want, s))
		}
		if e != o || !same(d, want) {
			t.Fatalf("Save(%v): %v; want %v", s, e, o)
		}
		must(t, d.Crash([]int{pick, pick >> 1, pick >> 2, pick >> 3}))
		if now := counts(t, d); e == api.OK && s.Tx >= was.Tx && now != s {
			t.Fatalf("%v counts; want %v", now, s)
		}
		if _, e := super.Read(d, pick); (e == api.OK) != (pick == 0 || pick == 1) {
			t.Fatalf("Read(%d): %v", pick, e)
		}
	})
}
