package page_test

import (
	"encoding/binary"
	"hash/crc32"
	"math"
	"math/rand"
	"slices"
	"testing"

	"voile/api"
	"voile/page"
)

const mostNamed = math.MaxUint16

// wraps is a number whose product with 120, in an int, is 0.
const wraps = math.MaxInt/4 + 1

// sum puts into a block the sum of what stands behind its place.
func sum(b api.Block) api.Block {
	binary.LittleEndian.PutUint32(b[:], crc32.Checksum(b[4:], crc32.MakeTable(crc32.Castagnoli)))
	return b
}

// plain is a page's block just as the chapter's words tell it.
func plain(no uint32, index int, counts []uint16) api.Block {
	l := []byte{0, 0, 0, 0, 'P', 'G', byte(index), 0}
	l = binary.LittleEndian.AppendUint32(l, no)
	l = append(l, 0, 0, 0, 0)
	for _, n := range counts {
		l = binary.LittleEndian.AppendUint16(l, n)
	}
	var b api.Block
	copy(b[:], l)
	return sum(b)
}

// plainPart is a page of an area's counts just as the chapter's words tell it.
func plainPart(counts []uint16, index int) []uint16 {
	p := make([]uint16, 120)
	for block, n := range counts {
		if block/120 == index {
			p[block%120] = n
		}
	}
	return p
}

// numbers are numbers of blocks, the least and the greatest among them.
func numbers() []uint32 {
	return []uint32{0, 1, 5, 255, 256, 0x01020304, 1 << 31, math.MaxUint32}
}

// indexes are indexes of pages, the least and the greatest among them.
func indexes() []int { return []int{0, 1, 2, 8, 9, 127, 128, 254, 255} }

// noIndexes are numbers that no page has as its index.
func noIndexes() []int {
	return []int{-1, -2, -255, -256, 256, 257, 511, 512, 65536, 1 << 32, math.MaxInt, math.MinInt, math.MinInt + 1, wraps}
}

// some are n counts, the edges' and unlike bytes among them.
func some(n int) []uint16 {
	edges := []uint16{1, mostNamed, 0, 0x0102, 255, 256, 0x8000, 0xff00, mostNamed - 1}
	l := make([]uint16, n)
	for i := range l {
		l[i] = uint16(i * 2027)
		if i%7 < 3 {
			l[i] = edges[i%len(edges)]
		}
	}
	return l
}

// all are n counts of one number.
func all(n int, count uint16) []uint16 { return slices.Repeat([]uint16{count}, n) }

// rows are counts that a page's block may be given.
func rows() [][]uint16 {
	l := [][]uint16{nil, {}, {0}, {1}, {258}, {mostNamed}, {0, 0, 7}, all(120, 0), all(120, 1), all(120, mostNamed)}
	for _, n := range []int{2, 3, 119, 120} {
		l = append(l, some(n))
	}
	return append(l, append(all(119, 0), 9), append(all(119, mostNamed), 0))
}

// filled are 120 counts: these, and noughts behind them.
func filled(counts []uint16) []uint16 {
	return append(slices.Clone(counts), make([]uint16, 120-len(counts))...)
}

// areas are counts of areas of the edges' sizes.
func areas() [][]uint16 {
	var l [][]uint16
	for _, n := range []int{1, 2, 119, 120, 121, 239, 240, 241, 360, 480, 599, 600, 960, 961, 999, 1000} {
		l = append(l, some(n), all(n, mostNamed), all(n, 0))
	}
	return l
}

// partsOf are all pages of an area's counts, by the chapter's words.
func partsOf(counts []uint16) [][]uint16 {
	var l [][]uint16
	for from := 0; from < len(counts); from += 120 {
		l = append(l, plainPart(counts, len(l)))
	}
	return l
}

func made(t *testing.T, no uint32, index int, counts []uint16) api.Block {
	t.Helper()
	b, e := page.Block(no, index, counts)
	if e != api.OK {
		t.Fatalf("Block(%d, %d, %v): %v", no, index, counts, e)
	}
	return b
}

// isOf: a block's counts are these.
func isOf(t *testing.T, no uint32, index int, b api.Block, want []uint16) {
	t.Helper()
	if got, e := page.Of(no, index, b); e != api.OK || !slices.Equal(got, want) {
		t.Errorf("Of(%d, %d, %x): %v, %v; want %v", no, index, b, got, e, want)
	}
}

func refuseOf(t *testing.T, no uint32, index int, b api.Block, want api.Errno, why string) {
	t.Helper()
	if got, e := page.Of(no, index, b); e != want || got != nil {
		t.Errorf("%s: Of(%d, %d, %x): %v, %v; want %v alone", why, no, index, b, got, e, want)
	}
}

func isJoin(t *testing.T, want []uint16, pages ...[]uint16) {
	t.Helper()
	if got, e := page.Join(len(want), pages...); e != api.OK || !slices.Equal(got, want) {
		t.Errorf("Join(%d, %v): %v, %v; want %v", len(want), pages, got, e, want)
	}
}

func refuseJoin(t *testing.T, want api.Errno, why string, blocks int, pages ...[]uint16) {
	t.Helper()
	if got, e := page.Join(blocks, pages...); e != want || got != nil {
		t.Errorf("%s: Join(%d) of %d pages: %v, %v; want %v alone", why, blocks, len(pages), got, e, want)
	}
}

// P7.1

func TestBlockByteByByte(t *testing.T) {
	want := api.Block{4: 'P', 5: 'G', 6: 9, 8: 4, 9: 3, 10: 2, 11: 1}
	copy(want[16:], []byte{2, 1, 0, 0, 255, 255, 1, 0, 0, 128})
	if b := made(t, 0x01020304, 9, []uint16{0x0102, 0, 65535, 1, 0x8000}); b != sum(want) {
		t.Errorf("%x; want %x", b, sum(want))
	}
	last := api.Block{4: 80, 5: 71, 6: 255, 8: 255, 9: 255, 10: 255, 11: 255, 254: 254, 255: 255}
	if b := made(t, math.MaxUint32, 255, append(all(119, 0), 65534)); b != sum(last) {
		t.Errorf("%x; want %x", b, sum(last))
	}
	if b := made(t, 0, 0, nil); b != sum(api.Block{4: 'P', 5: 'G'}) {
		t.Errorf("no counts, number 0, index 0: %x", b)
	}
}

// The sum, bit by bit as layer 2's chapter tells it, so that the test hangs on no other code.
func TestBlockSumBitByBit(t *testing.T) {
	b := made(t, 1, 0, []uint16{1, 1, 1})
	r := uint32(math.MaxUint32)
	for _, x := range b[4:] {
		r ^= uint32(x)
		for range 8 {
			low := r & 1
			r >>= 1
			if low == 1 {
				r ^= 0x82F63B78
			}
		}
	}
	r = ^r
	if [4]byte(b[:4]) != [4]byte{byte(r), byte(r >> 8), byte(r >> 16), byte(r >> 24)} {
		t.Errorf("%x; want the sum %08x, the lowest byte first", b[:4], r)
	}
}

func TestBlockIsAsTheWordsTellIt(t *testing.T) {
	for _, no := range numbers() {
		for _, index := range indexes() {
			for _, counts := range rows() {
				b := made(t, no, index, counts)
				if b != plain(no, index, counts) {
					t.Errorf("Block(%d, %d, %v): %x; want %x", no, index, counts, b, plain(no, index, counts))
				}
				isOf(t, no, index, b, filled(counts))
			}
		}
	}
}

func TestBlockOfEachIndexAndEachLength(t *testing.T) {
	for index := range 256 {
		b := made(t, 7, index, some(120))
		if b != plain(7, index, some(120)) {
			t.Errorf("index %d: %x", index, b)
		}
		isOf(t, 7, index, b, some(120))
	}
	for n := range 121 {
		b := made(t, 7, 3, all(n, mostNamed))
		if b != plain(7, 3, all(n, mostNamed)) {
			t.Errorf("%d counts: %x", n, b)
		}
		isOf(t, 7, 3, b, filled(all(n, mostNamed)))
	}
}

// Each count keeps its place, its bits, and stays off the others.
func TestEachCountInItsPlace(t *testing.T) {
	for i := range 120 {
		for bit := range 16 {
			counts := all(120, 0)
			counts[i] = 1 << bit
			b := made(t, 5, 1, counts)
			want := api.Block{4: 'P', 5: 'G', 6: 1, 8: 5}
			want[16+2*i+bit/8] = 1 << (bit % 8)
			if b != sum(want) {
				t.Errorf("count %d is %d: %x; want %x", i, counts[i], b, sum(want))
			}
			isOf(t, 5, 1, b, counts)
		}
	}
}

func TestBlockOfWrongArguments(t *testing.T) {
	refuse := func(no uint32, index int, counts []uint16) {
		t.Helper()
		if b, e := page.Block(no, index, counts); e != api.ErrArg || b != (api.Block{}) {
			t.Errorf("Block(%d, %d) of %d counts: %x, %v; want ErrArg alone", no, index, len(counts), b, e)
		}
	}
	for _, no := range numbers() {
		for _, index := range noIndexes() {
			for _, counts := range rows() {
				refuse(no, index, counts)
			}
			refuse(no, index, all(121, 1))
		}
		for _, index := range indexes() {
			for _, n := range []int{121, 122, 240, 376, 1000, 65536 + 120} {
				refuse(no, index, all(n, 0))
				refuse(no, index, all(n, 1))
			}
		}
	}
	// How much room a list has behind it is nothing to Block.
	if _, e := page.Block(1, 1, make([]uint16, 120, 500)); e != api.OK {
		t.Error(e)
	}
}

func TestOfAWrongIndex(t *testing.T) {
	for _, index := range noIndexes() {
		for _, no := range numbers() {
			refuseOf(t, no, index, plain(no, index, some(120)), api.ErrArg, "a page's block, but for the index")
			refuseOf(t, no, index, plain(no, 0, nil), api.ErrArg, "a page's block of the index 0")
			refuseOf(t, no, index, api.Block{}, api.ErrArg, "none's block, either")
		}
	}
}

func TestOfAnotherNumber(t *testing.T) {
	for _, no := range numbers() {
		b := made(t, no, 3, some(120))
		for _, other := range numbers() {
			if other != no {
				refuseOf(t, other, 3, b, api.ErrBytes, "another number")
			}
		}
		for bit := range 32 {
			refuseOf(t, no^1<<bit, 3, b, api.ErrBytes, "a bit of the number")
		}
	}
}

func TestOfAnotherIndex(t *testing.T) {
	for index := range 256 {
		b := made(t, 5, index, some(120))
		for other := range 256 {
			if other != index {
				refuseOf(t, 5, other, b, api.ErrBytes, "another index")
			}
		}
	}
}

// Whichever byte is changed: of the sum, the letters, the index, the nought, the number, the four noughts, the counts.
func TestOfAChangedByte(t *testing.T) {
	for _, counts := range [][]uint16{nil, some(3), some(120), all(120, mostNamed)} {
		for _, index := range []int{0, 5, 255} {
			b := made(t, 5, index, counts)
			for at := range b {
				for bit := range 8 {
					c := b
					c[at] ^= 1 << bit
					refuseOf(t, 5, index, c, api.ErrBytes, "a bit is turned")
				}
				c := b
				c[at] ^= 255
				refuseOf(t, 5, index, c, api.ErrBytes, "a byte is turned")
			}
		}
	}
}

// A right sum alone makes no page's block: ahead of the counts each byte is just one.
func TestOfAChangedByteWithItsSum(t *testing.T) {
	b := made(t, 5, 2, some(120))
	for at := 4; at < 16; at++ {
		for to := range 256 {
			c := b
			c[at] = byte(to)
			if c = sum(c); c != b {
				refuseOf(t, 5, 2, c, api.ErrBytes, "another byte ahead of the counts")
			}
		}
	}
	for at := 16; at < api.BlockSize; at++ {
		c := b
		c[at] ^= 129
		counts := some(120)
		counts[(at-16)/2] ^= 129 << (8 * (at % 2))
		isOf(t, 5, 2, sum(c), counts)
	}
}

// A sum of other bytes, or laid in another order, is not the sum.
func TestOfAnotherSum(t *testing.T) {
	castagnoli := crc32.MakeTable(crc32.Castagnoli)
	for _, counts := range [][]uint16{nil, some(3), some(120)} {
		b := plain(5, 2, counts)
		c := b
		slices.Reverse(c[:4])
		refuseOf(t, 5, 2, c, api.ErrBytes, "a sum the other way round")
		binary.LittleEndian.PutUint32(c[:], crc32.ChecksumIEEE(c[4:]))
		refuseOf(t, 5, 2, c, api.ErrBytes, "another polynomial's sum")
		binary.LittleEndian.PutUint32(c[:], crc32.Checksum(c[16:], castagnoli))
		refuseOf(t, 5, 2, c, api.ErrBytes, "a sum of the counts alone")
		clear(c[:4])
		refuseOf(t, 5, 2, c, api.ErrBytes, "no sum")
		binary.LittleEndian.PutUint32(c[:], crc32.Checksum(c[:], castagnoli))
		refuseOf(t, 5, 2, c, api.ErrBytes, "a sum of its own place too")
	}
}

func TestOfNoPage(t *testing.T) {
	var ones api.Block
	for i := range ones {
		ones[i] = 255
	}
	node := sum(api.Block{4: 2, 8: 5, 12: 1})
	for _, no := range numbers() {
		for _, index := range indexes() {
			for _, b := range []api.Block{{}, sum(api.Block{}), ones, sum(ones), node} {
				refuseOf(t, no, index, b, api.ErrBytes, "none's block")
			}
		}
	}
}

// P7.2

// The example of the chapter, and the other edges.
func TestPages(t *testing.T) {
	for blocks, pages := range map[int]int{
		1: 1, 120: 1, 121: 2,
		2: 1, 119: 1, 240: 2, 241: 3, 360: 3, 361: 4, 480: 4, 481: 5, 960: 8, 961: 9, 999: 9, 1000: 9,
		0: 0, -1: 0, -119: 0, -120: 0, -121: 0, -1000: 0, math.MinInt: 0, math.MinInt + 1: 0,
		1001: 9, 1080: 9, 1081: 10, math.MaxInt32: 17895698, math.MaxInt: math.MaxInt/120 + 1,
	} {
		if n := page.Pages(blocks); n != pages {
			t.Errorf("Pages(%d): %d; want %d", blocks, n, pages)
		}
	}
	for blocks := -500; blocks < 2000; blocks++ {
		want := 0
		for 120*want < blocks {
			want++
		}
		if n := page.Pages(blocks); n != want {
			t.Errorf("Pages(%d): %d; want %d", blocks, n, want)
		}
	}
}

func isPart(t *testing.T, counts []uint16, index int) {
	t.Helper()
	if p := page.Part(counts, index); !slices.Equal(p, plainPart(counts, index)) {
		t.Errorf("Part(%v, %d): %v", counts, index, p)
	}
}

func TestPart(t *testing.T) {
	for _, counts := range areas() {
		for index := range page.Pages(len(counts)) {
			isPart(t, counts, index)
		}
	}
}

func TestPartByHand(t *testing.T) {
	counts := append(append(all(120, 3), all(120, 4)...), 5, 6)
	for index, want := range [][]uint16{all(120, 3), all(120, 4), filled([]uint16{5, 6}), all(120, 0)} {
		if p := page.Part(counts, index); !slices.Equal(p, want) {
			t.Errorf("Part(%d): %v; want %v", index, p, want)
		}
	}
}

// The last page has noughts behind the area's end, whatever lies behind the list there.
func TestPartBehindTheEnd(t *testing.T) {
	for _, n := range []int{1, 119, 121, 239, 999} {
		long := all(n+200, mostNamed)
		p := page.Part(long[:n], n/120)
		if !slices.Equal(p, filled(all(n%120, mostNamed))) {
			t.Errorf("the last page of %d counts: %v", n, p)
		}
	}
}

func TestPartOfAnIndexThatThereIsNot(t *testing.T) {
	for _, counts := range append(areas(), nil, []uint16{}) {
		many := page.Pages(len(counts))
		for _, index := range append(noIndexes(), many, many+1, many+255, math.MaxInt/120, math.MaxInt/120+1, wraps+1, -wraps, -many) {
			if index < 0 || index >= many {
				if p := page.Part(counts, index); !slices.Equal(p, all(120, 0)) {
					t.Errorf("Part of %d counts, %d: %v; want 120 noughts", len(counts), index, p)
				}
			}
		}
	}
}

func TestJoin(t *testing.T) {
	for _, counts := range areas() {
		isJoin(t, counts, partsOf(counts)...)
	}
}

func TestJoinByHand(t *testing.T) {
	one := filled([]uint16{1, 0, 65535})
	isJoin(t, []uint16{1, 0, 65535}, one)
	isJoin(t, []uint16{1, 0, 65535, 0}, one)
	isJoin(t, one, one)
	isJoin(t, append(slices.Clone(one), 7), one, filled([]uint16{7}))
	isJoin(t, append(all(120, 7), 1, 0, 65535), all(120, 7), one)
	isJoin(t, []uint16{0}, all(120, 0))
}

func TestJoinOfAnotherNumberOfPages(t *testing.T) {
	for _, blocks := range []int{1, 119, 120, 121, 240, 241, 960, 961, 1000} {
		parts := partsOf(all(1080, 0))
		for many := range parts {
			if many != (blocks+119)/120 {
				refuseJoin(t, api.ErrArg, "another number of pages", blocks, parts[:many]...)
			}
		}
		refuseJoin(t, api.ErrArg, "very many pages", blocks, make([][]uint16, 5000)...)
		refuseJoin(t, api.ErrArg, "256 pages more", blocks, slices.Repeat([][]uint16{all(120, 0)}, (blocks+119)/120+256)...)
	}
}

func TestJoinOfAPageOfAnotherLength(t *testing.T) {
	for _, blocks := range []int{1, 119, 120, 121, 240, 999, 1000} {
		many := (blocks + 119) / 120
		for at := range many {
			for _, n := range []int{0, 1, 119, 121, 240} {
				parts := partsOf(all(blocks, 0))
				parts[at] = all(n, 0)
				refuseJoin(t, api.ErrArg, "a page of another length", blocks, parts...)
			}
			parts := partsOf(all(blocks, 0))
			parts[at] = nil
			refuseJoin(t, api.ErrArg, "a nil page", blocks, parts...)
		}
	}
	refuseJoin(t, api.ErrArg, "lengths that are right together", 240, all(119, 1), all(121, 1))
	refuseJoin(t, api.ErrArg, "lengths that are right together", 240, all(121, 1), all(119, 1))
	refuseJoin(t, api.ErrArg, "lengths that are right together", 240, all(240, 1), nil)
	refuseJoin(t, api.ErrArg, "just the area's counts", 121, all(120, 1), all(1, 1))
	refuseJoin(t, api.ErrArg, "just the area's counts", 3, all(3, 1))
}

func TestJoinOfCountsBehindTheEnd(t *testing.T) {
	for _, blocks := range []int{1, 2, 60, 118, 119, 121, 239, 241, 999, 1000} {
		last := blocks / 120
		for at := blocks % 120; at < 120; at++ {
			for _, n := range []uint16{1, 256, 0x8000, mostNamed} {
				parts := partsOf(some(blocks))
				parts[last][at] = n
				refuseJoin(t, api.ErrBytes, "a count behind the end", blocks, parts...)
			}
		}
	}
	// One block more, and the count is the area's.
	isJoin(t, []uint16{0, 0, 9}, filled([]uint16{0, 0, 9}))
	refuseJoin(t, api.ErrBytes, "a count just behind the end", 2, filled([]uint16{0, 0, 9}))
}

// ErrArg is told ahead of ErrBytes, wherever the page stands.
func TestJoinOfSeveralFaults(t *testing.T) {
	refuseJoin(t, api.ErrArg, "a short page ahead of a count behind the end", 121, all(119, 0), all(120, 1))
	refuseJoin(t, api.ErrArg, "a long page ahead of a count behind the end", 121, all(121, 0), all(120, 1))
	refuseJoin(t, api.ErrArg, "a long last page of counts behind the end", 1, all(121, 1))
	refuseJoin(t, api.ErrArg, "a page too many, counts behind the end", 1, all(120, 1), all(120, 1))
	refuseJoin(t, api.ErrArg, "too many blocks, counts behind the end", 1001, slices.Repeat([][]uint16{all(120, 1)}, 9)...)
	refuseJoin(t, api.ErrArg, "no blocks, counts behind the end", 0, all(120, 1))
}

func TestJoinOfNoArea(t *testing.T) {
	for _, blocks := range []int{0, -1, -2, -119, -120, -121, -1000, math.MinInt, math.MinInt + 1, 1001, 1002, 1079, 1080, 1081, 65536, 65537, 1<<32 + 1, math.MaxInt, math.MaxInt - 119, wraps} {
		for many := range 12 {
			refuseJoin(t, api.ErrArg, "no area", blocks, slices.Repeat([][]uint16{all(120, 0)}, many)...)
		}
	}
	refuseJoin(t, api.ErrArg, "no area, a list of no pages", 0, [][]uint16{}...)
}

// Each size of an area, through its pages' blocks and back.
func TestThereAndBack(t *testing.T) {
	for blocks := 1; blocks <= 1000; blocks++ {
		counts := some(blocks)
		var pages [][]uint16
		for index := range page.Pages(blocks) {
			no := uint32(blocks + index)
			p, e := page.Of(no, index, made(t, no, index, page.Part(counts, index)))
			if e != api.OK {
				t.Fatalf("%d blocks, page %d: %v", blocks, index, e)
			}
			pages = append(pages, p)
		}
		isJoin(t, counts, pages...)
	}
}

// Memory

// scribble changes a list, and what lies behind it.
func scribble(l []uint16) {
	l = l[:cap(l)]
	for i := range l {
		l[i] ^= 0xabcd
	}
}

// roomy is a list as it was given, with room behind that must stay as it is.
func roomy(l []uint16) []uint16 { return append(make([]uint16, 0, len(l)+130), l...) }

// stays: a roomy list is as it was, and behind it there are noughts.
func stays(t *testing.T, what string, l, was []uint16) {
	t.Helper()
	if !slices.Equal(l, was) || slices.Max(l[len(l):cap(l)]) != 0 {
		t.Errorf("%s: %v; was %v", what, l[:cap(l)], was)
	}
}

func TestBlockAndOfShareNothing(t *testing.T) {
	for _, counts := range rows() {
		given := roomy(counts)
		b := made(t, 5, 3, given)
		stays(t, "given to Block", given, counts)
		scribble(given)
		if b != plain(5, 3, counts) {
			t.Errorf("the block of %v hangs on what was given", counts)
		}
		one, _ := page.Of(5, 3, b)
		two, _ := page.Of(5, 3, b)
		if b != plain(5, 3, counts) {
			t.Error("Of changed the block")
		}
		scribble(one)
		isOf(t, 5, 3, b, filled(counts))
		if !slices.Equal(two, filled(counts)) {
			t.Errorf("two answers of Of share: %v", two)
		}
	}
}

func TestPartSharesNothing(t *testing.T) {
	for _, counts := range areas() {
		for index := -1; index <= page.Pages(len(counts)); index++ {
			given := roomy(counts)
			one, two := page.Part(given, index), page.Part(given, index)
			stays(t, "given to Part", given, counts)
			scribble(one)
			stays(t, "given to Part whose answer was changed", given, counts)
			scribble(given)
			if !slices.Equal(two, plainPart(counts, index)) {
				t.Errorf("Part(%v, %d) shares: %v", counts, index, two)
			}
		}
	}
	one := page.Part(nil, 0)
	scribble(one)
	if p := page.Part(nil, 0); !slices.Equal(p, all(120, 0)) {
		t.Errorf("noughts that are shared: %v", p)
	}
}

func TestJoinSharesNothing(t *testing.T) {
	for _, counts := range areas() {
		var given [][]uint16
		for _, p := range partsOf(counts) {
			given = append(given, roomy(p))
		}
		one, _ := page.Join(len(counts), given...)
		two, _ := page.Join(len(counts), given...)
		scribble(one)
		for i, p := range partsOf(counts) {
			stays(t, "given to Join", given[i], p)
			scribble(given[i])
		}
		if !slices.Equal(two, counts) {
			t.Errorf("Join(%d) shares: %v; want %v", len(counts), two, counts)
		}
	}
}

// What is refused leaves what was given as it was, too.
func TestRefusedGivenStays(t *testing.T) {
	long := roomy(all(121, 7))
	page.Block(1, 1, long)
	stays(t, "given to a Block that is refused", long, all(121, 7))
	behind := roomy(all(120, 7))
	page.Join(1, behind)
	page.Join(1001, behind)
	page.Join(1, behind, long)
	stays(t, "given to a Join that is refused", behind, all(120, 7))
	stays(t, "given to a Join that is refused", long, all(121, 7))
	b := plain(5, 3, some(120))
	page.Of(6, 3, b)
	if b != plain(5, 3, some(120)) {
		t.Error("Of changed the block")
	}
}

// P7.1, P7.2: whatever area, of whatever number.
func TestRandomAreas(t *testing.T) {
	r := rand.New(rand.NewSource(7))
	for range 2000 {
		counts := make([]uint16, 1+r.Intn(1000))
		for i := range counts {
			counts[i] = uint16(r.Uint32() >> r.Intn(32))
		}
		index := r.Intn(page.Pages(len(counts)) + 2)
		isPart(t, counts, index)
		isJoin(t, counts, partsOf(counts)...)
		no, p := r.Uint32(), page.Part(counts, index)
		b := made(t, no, index, p)
		if b != plain(no, index, p) {
			t.Errorf("Block(%d, %d, %v): %x", no, index, p, b)
		}
		isOf(t, no, index, b, p)
	}
}

// P0.6

func FuzzPage(f *testing.F) {
	example := plain(5, 2, some(120))
	f.Add(example[:], uint32(5), 2, true, 240)
	f.Add(example[:], uint32(5), 256, false, 1001)
	f.Add([]byte{4: 'P', 5: 'G'}, uint32(math.MaxUint32), -1, true, -5)
	f.Add([]byte{300: 1}, uint32(0), wraps, true, math.MaxInt)
	f.Fuzz(func(t *testing.T, bytes []byte, no uint32, index int, right bool, blocks int) {
		var b api.Block
		copy(b[:], bytes)
		if right {
			b = sum(b)
		}
		counts, e := page.Of(no, index, b)
		may := index >= 0 && index <= 255
		if own := may && b == plain(no, index, counts); own != (e == api.OK) || may != (e != api.ErrArg) {
			t.Fatalf("Of(%d, %d, %x): %v, %v", no, index, b, counts, e)
		}
		if e != api.OK && counts != nil || e == api.OK && len(counts) != 120 {
			t.Fatalf("Of(%d, %d, %x): %v, %v", no, index, b, counts, e)
		}
		var area []uint16
		for i := range len(bytes) / 2 {
			area = append(area, binary.LittleEndian.Uint16(bytes[2*i:]))
		}
		isPart(t, area, index)
		got, e := page.Join(blocks, partsOf(area)...)
		fits := blocks >= 1 && blocks <= 1000 && (blocks+119)/120 == (len(area)+119)/120
		long := append(slices.Clone(area), make([]uint16, 1200)...)
		noughts := fits && slices.Equal(long[blocks:], make([]uint16, len(long)-blocks))
		if fits != (e != api.ErrArg) || noughts != (e == api.OK) || noughts && !slices.Equal(got, long[:blocks]) || !noughts && got != nil {
			t.Fatalf("Join(%d) of pages of %v: %v, %v", blocks, area, got, e)
		}
	})
}
