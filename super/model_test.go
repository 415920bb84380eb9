package super_test

import (
	"encoding/binary"
	"hash/crc32"
	"math"
	"slices"
	"testing"

	"voile/api"
	"voile/disk"
	"voile/super"
)

// sum puts into a block the sum of what stands behind its place.
func sum(b api.Block) api.Block {
	binary.LittleEndian.PutUint32(b[:], crc32.Checksum(b[4:], crc32.MakeTable(crc32.Castagnoli)))
	return b
}

// plain is a superblock's block just as the chapter's words tell it.
func plain(s api.Super) api.Block {
	l := append(make([]byte, 4), "VOIL"...)
	l = binary.LittleEndian.AppendUint64(l, s.Tx)
	l = binary.LittleEndian.AppendUint32(l, uint32(s.Meta))
	l = binary.LittleEndian.AppendUint32(l, uint32(s.Data))
	for _, n := range s.Pages {
		l = binary.LittleEndian.AppendUint32(l, n)
	}
	for _, n := range []uint32{s.Top, s.Base, s.Stage, uint32(s.Cursor)} {
		l = binary.LittleEndian.AppendUint32(l, n)
	}
	t := s.State
	for _, n := range []uint64{t.Epoch, t.Last, t.Seq, t.BaseLast, t.BaseSeq} {
		l = binary.LittleEndian.AppendUint64(l, n)
	}
	if t.Marked {
		l = append(l, 1)
	}
	var b api.Block
	copy(b[:], l)
	return sum(b)
}

// plainOf is what a block says, told byte by byte; not ok: it is none's.
func plainOf(b api.Block) (api.Super, bool) {
	four := func(at int) uint32 { return binary.LittleEndian.Uint32(b[at:]) }
	eight := func(at int) uint64 { return binary.LittleEndian.Uint64(b[at:]) }
	s := api.Super{
		Tx: eight(8), Meta: int(four(16)), Data: int(four(20)),
		Pages: [6]uint32{four(24), four(28), four(32), four(36), four(40), four(44)},
		Top:   four(48), Base: four(52), Stage: four(56), Cursor: int(four(60)),
		State: api.State{Epoch: eight(64), Last: eight(72), Seq: eight(80), BaseLast: eight(88), BaseSeq: eight(96), Marked: b[104] == 1},
	}
	whole := sum(b) == b && string(b[4:8]) == "VOIL" && b[104] <= 1 && [151]byte(b[105:]) == [151]byte{}
	return s, whole && plainMay(s)
}

// plainMay: may a superblock be, by each row of the words?
func plainMay(s api.Super) bool {
	all := []bool{
		16 <= s.Meta, s.Meta <= 240, 1 <= s.Data, s.Data <= 480, 1 <= s.Tx, s.Tx <= 1<<62,
		int(s.Top) < s.Meta, int(s.Base) < s.Meta, int(s.Stage) < s.Meta, 0 <= s.Cursor, s.Cursor <= s.Data-1,
	}
	for _, n := range s.Pages {
		all = append(all, int(n) < s.Meta)
	}
	return !slices.Contains(all, false)
}

// plainLoad is the one that counts, by the words: of the blocks 0 and 1.
func plainLoad(t testing.TB, d *disk.Disk) (api.Super, api.Errno) {
	t.Helper()
	var l []api.Super
	for slot := range 2 {
		if s, ok := plainOf(onDisk(t, d, slot)); ok && int(s.Tx%2) == slot {
			l = append(l, s)
		}
	}
	slices.SortFunc(l, func(a, b api.Super) int { return int(int64(b.Tx - a.Tx)) })
	if len(l) == 0 {
		return api.Super{}, api.ErrNone
	}
	return l[0], api.OK
}

// step is a Write of a sector, or a Flush.
type step struct {
	flush  bool
	at     int
	sector api.Sector
}

// plainSave are the steps by which one is saved.
func plainSave(t testing.TB, d *disk.Disk, s api.Super) []step {
	t.Helper()
	slot := int(s.Tx % 2)
	old := onDisk(t, d, slot)
	var l []step
	if _, ok := plainOf(old); !ok && [64]byte(old[:64]) != [64]byte{} {
		l = append(l, step{at: 4 * slot}, step{flush: true})
	}
	b := plain(s)
	for i := range 4 {
		l = append(l, step{at: 4*slot + i, sector: api.Sector(b[64*i:])})
	}
	return append(l, step{flush: true})
}

// do does steps, up to the first that is refused.
func do(d *disk.Disk, l []step) api.Errno {
	for _, x := range l {
		e := api.OK
		if x.flush {
			e = d.Flush()
		} else {
			e = d.Write(x.at, x.sector)
		}
		if e != api.OK {
			return e
		}
	}
	return api.OK
}

// onDisk is a block as the disk's own calls tell it.
func onDisk(t testing.TB, d *disk.Disk, block int) api.Block {
	t.Helper()
	var b api.Block
	for i := range 4 {
		s, e := d.Read(4*block + i)
		must(t, e)
		copy(b[64*i:], s[:])
	}
	return b
}

func must(t testing.TB, e api.Errno) {
	t.Helper()
	if e != api.OK {
		t.Fatalf("errno %d", e)
	}
}

// newDisk is a disk of so many sectors, each of which has bytes of its own, that last.
func newDisk(t testing.TB, sectors int, noughts bool) *disk.Disk {
	t.Helper()
	d, e := disk.New(sectors)
	must(t, e)
	for i := range sectors {
		if !noughts {
			must(t, d.Write(i, api.Sector{0: byte(i + 1), 63: 200}))
		}
	}
	must(t, d.Flush())
	return d
}

// lay puts a block on a disk, for good.
func lay(t testing.TB, d *disk.Disk, block int, b api.Block) {
	t.Helper()
	for i := range 4 {
		must(t, d.Write(4*block+i, api.Sector(b[64*i:])))
	}
	must(t, d.Flush())
}

func save(t testing.TB, d *disk.Disk, s api.Super) {
	t.Helper()
	must(t, super.Save(d, s))
}

// same: has a disk the same, lasting and read, open sectors among them, and is it dead as the other one is?
func same(a, b *disk.Disk) bool {
	return a.Same(b) && slices.Equal(a.Open(), b.Open()) && a.Dead() == b.Dead()
}

// full is a superblock all of whose bytes are told.
func full() api.Super {
	return api.Super{
		Tx: 0x0102030405060708, Meta: 0xF0, Data: 0x01E0,
		Pages: [6]uint32{1, 2, 3, 4, 5, 239},
		Top:   0x11, Base: 0x22, Stage: 0x33, Cursor: 0x01DF,
		State: api.State{
			Epoch: 0x1122334455667788, Last: 0x2132435465768798, Seq: 0x3142536475869708,
			BaseLast: 0x4152637485960718, BaseSeq: 0x5162738495061728, Marked: true,
		},
	}
}

// least is the one of the least numbers.
func least() api.Super { return api.Super{Tx: 1, Meta: 16, Data: 1} }

// of is a superblock of a Tx, with a Top of its own.
func of(tx uint64, top uint32) api.Super {
	return api.Super{Tx: tx, Meta: 64, Data: 40, Pages: [6]uint32{1, 2}, Top: top, Cursor: 39, State: api.State{Epoch: 3, Last: 3, Seq: tx}}
}

// rights are superblocks that may be: the edges, and each number alone.
func rights() []api.Super {
	most := full()
	most.Tx, most.Top, most.Base, most.Stage, most.Pages = 1<<62, 239, 239, 239, [6]uint32{239, 239, 239, 239, 239, 239}
	most.State = api.State{Epoch: math.MaxUint64, Last: math.MaxUint64, Seq: math.MaxUint64, BaseLast: math.MaxUint64, BaseSeq: math.MaxUint64, Marked: true}
	unmarked := full()
	unmarked.State.Marked = false
	l := []api.Super{full(), least(), most, unmarked, of(1, 0), of(2, 63), of(1<<62, 7), of(1<<62-1, 7)}
	for _, change := range []func(s *api.Super){
		func(s *api.Super) { s.Tx = 1 << 62 },
		func(s *api.Super) { s.Tx = 1<<62 - 1 },
		func(s *api.Super) { s.Tx = 2 },
		func(s *api.Super) { s.Tx = 1 << 32 },
		func(s *api.Super) { s.Meta = 17 },
		func(s *api.Super) { s.Meta = 240 },
		func(s *api.Super) { s.Data = 2 },
		func(s *api.Super) { s.Data = 256 },
		func(s *api.Super) { s.Data = 480 },
		func(s *api.Super) { s.Data, s.Cursor = 480, 479 },
		func(s *api.Super) { s.Data, s.Cursor = 480, 256 },
		func(s *api.Super) { s.Top = 15 },
		func(s *api.Super) { s.Base = 15 },
		func(s *api.Super) { s.Stage = 15 },
		func(s *api.Super) { s.Top, s.Base, s.Stage = 1, 1, 1 },
		func(s *api.Super) { s.State.Epoch = 1 },
		func(s *api.Super) { s.State.Last = 1 << 63 },
		func(s *api.Super) { s.State.Seq = 1 << 32 },
		func(s *api.Super) { s.State.BaseLast = 5 },
		func(s *api.Super) { s.State.BaseSeq = 256 },
		func(s *api.Super) { s.State.Marked = true },
	} {
		s := least()
		change(&s)
		l = append(l, s)
	}
	for i := range 6 {
		s := least()
		s.Pages[i] = 15
		l = append(l, s)
	}
	return l
}

// wrongs are superblocks that may not be, by what is wrong with them, each in one row alone.
func wrongs() map[string]api.Super {
	l := map[string]api.Super{"zero": {}}
	for why, change := range map[string]func(s *api.Super){
		"Tx 0":                func(s *api.Super) { s.Tx = 0 },
		"Tx above":            func(s *api.Super) { s.Tx = 1<<62 + 1 },
		"Tx 2^63":             func(s *api.Super) { s.Tx = 1 << 63 },
		"the greatest Tx":     func(s *api.Super) { s.Tx = math.MaxUint64 },
		"Meta below":          func(s *api.Super) { s.Meta = 15 },
		"Meta 0":              func(s *api.Super) { s.Meta, s.Pages, s.Top, s.Base, s.Stage = 0, [6]uint32{}, 0, 0, 0 },
		"Meta -1":             func(s *api.Super) { s.Meta = -1 },
		"Meta above":          func(s *api.Super) { s.Meta = 241 },
		"Meta far above":      func(s *api.Super) { s.Meta = 1<<32 + 64 },
		"the greatest Meta":   func(s *api.Super) { s.Meta = math.MaxInt },
		"the least Meta":      func(s *api.Super) { s.Meta = math.MinInt },
		"Data 0":              func(s *api.Super) { s.Data, s.Cursor = 0, 0 },
		"Data 0, Cursor -1":   func(s *api.Super) { s.Data, s.Cursor = 0, -1 },
		"Data -1":             func(s *api.Super) { s.Data = -1 },
		"Data above":          func(s *api.Super) { s.Data = 481 },
		"Data far above":      func(s *api.Super) { s.Data = 1<<32 + 40 },
		"the greatest Data":   func(s *api.Super) { s.Data = math.MaxInt },
		"the least Data":      func(s *api.Super) { s.Data = math.MinInt },
		"Top is Meta":         func(s *api.Super) { s.Top = 64 },
		"Top above":           func(s *api.Super) { s.Top = 65 },
		"the greatest Top":    func(s *api.Super) { s.Top = math.MaxUint32 },
		"Base is Meta":        func(s *api.Super) { s.Base = 64 },
		"Base above":          func(s *api.Super) { s.Base = 1 << 31 },
		"the greatest Base":   func(s *api.Super) { s.Base = math.MaxUint32 },
		"Stage is Meta":       func(s *api.Super) { s.Stage = 64 },
		"Stage above":         func(s *api.Super) { s.Stage = 239 },
		"the greatest Stage":  func(s *api.Super) { s.Stage = math.MaxUint32 },
		"Cursor is Data":      func(s *api.Super) { s.Cursor = 40 },
		"Cursor above":        func(s *api.Super) { s.Cursor = 479 },
		"Cursor far above":    func(s *api.Super) { s.Cursor = 1 << 32 },
		"Cursor -1":           func(s *api.Super) { s.Cursor = -1 },
		"the least Cursor":    func(s *api.Super) { s.Cursor = math.MinInt },
		"the greatest Cursor": func(s *api.Super) { s.Cursor = math.MaxInt },
	} {
		s := of(5, 3)
		change(&s)
		l[why] = s
	}
	for i, name := range []string{"0", "1", "2", "3", "4", "5"} {
		for why, n := range map[string]uint32{" is Meta": 64, " above": 200, " the greatest": math.MaxUint32} {
			s := of(5, 3)
			s.Pages[i] = n
			l["page "+name+why] = s
		}
	}
	return l
}

// laid: is all that is wrong with it still told when it is laid as bytes?
func laid(s api.Super) bool {
	for _, n := range []int{s.Meta, s.Data, s.Cursor} {
		if n != int(uint32(n)) {
			return false
		}
	}
	return true
}
