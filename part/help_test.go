package part_test

import (
	"bytes"
	"math"
	"slices"
	"testing"

	"voile/api"
	"voile/part"
)

// end is where a row ends at the latest; endBlock is behind the last block that has sectors of a row.
const (
	end      = 1 << 30
	endBlock = 1 << 28
)

// step is what Over goes over at once.
type step struct {
	ahead int
	part  api.Span
}

// plainSteps are what Over goes over, of a row that may be: told sector by sector.
func plainSteps(at, count int) []step {
	var l []step
	for i := range count {
		block, in := (at+i)>>2, (at+i)&3
		if i == 0 || l[len(l)-1].part.Block != block {
			l = append(l, step{i, api.Span{Block: block, From: in}})
		}
		l[len(l)-1].part.To = in + 1
	}
	return l
}

// partsOf are the parts alone.
func partsOf(l []step) []api.Span {
	var parts []api.Span
	for _, s := range l {
		parts = append(parts, s.part)
	}
	return parts
}

// gone is what Over goes over, up to so many.
func gone(at, count, most int) []step {
	var l []step
	for ahead, s := range part.Over(at, count) {
		if l = append(l, step{ahead, s}); len(l) == most {
			break
		}
	}
	return l
}

// told holds what is told of a row.
func told(t testing.TB, at, count int, want []step) {
	t.Helper()
	// Split comes last: of what would be a row of any length, its parts may have no room.
	if n := part.Blocks(at, count); n != len(want) {
		t.Fatalf("Blocks(%d, %d): %d; want %d", at, count, n, len(want))
	}
	if l := gone(at, count, len(want)+1); !slices.Equal(l, want) {
		t.Fatalf("Over(%d, %d): %v; want %v", at, count, l, want)
	}
	if l := part.Split(at, count); !slices.Equal(l, partsOf(want)) {
		t.Errorf("Split(%d, %d): %v; want %v", at, count, l, partsOf(want))
	}
}

// some are n bytes of which those that stand in one place of their sectors are all unlike, for some 200 sectors.
func some(n int, first byte) []byte {
	b := make([]byte, n)
	for i := range b {
		b[i] = first + byte(i) + byte(i/api.SectorSize)*37
	}
	return b
}

// blockOf is a block of unlike sectors.
func blockOf(first byte) api.Block { return api.Block(some(api.BlockSize, first)) }

// sector is one of the row of bytes' sectors.
func sector(b []byte, i int) []byte { return b[i*api.SectorSize : (i+1)*api.SectorSize] }

// plainMerged is a block with data from a sector of it on, made sector by sector.
func plainMerged(b api.Block, from int, data []byte) api.Block {
	var all []byte
	for i := range api.Sectors {
		if n := i - from; n >= 0 && n < len(data)/api.SectorSize {
			all = append(all, sector(data, n)...)
		} else {
			all = append(all, sector(b[:], i)...)
		}
	}
	return api.Block(all)
}

// plainCut are a block's bytes of a part, made sector by sector.
func plainCut(b api.Block, s api.Span) []byte {
	var all []byte
	if s.From < 0 || s.To > api.Sectors {
		return nil
	}
	for i := range api.Sectors {
		if i >= s.From && i < s.To {
			all = append(all, sector(b[:], i)...)
		}
	}
	return all
}

// plainData are those of the data that are a part's, made sector by sector.
func plainData(s api.Span, at int, data []byte) []byte {
	if s.From < 0 || s.To > api.Sectors || s.Block < 0 || s.Block > endBlock || at < 0 || at > end {
		return nil
	}
	var all []byte
	for i := range len(data) / api.SectorSize {
		if block, in := (at+i)/4, (at+i)%4; block == s.Block && in >= s.From && in < s.To {
			all = append(all, sector(data, i)...)
		}
	}
	return all
}

// merged holds what Merge tells, where it is not refused.
func merged(t testing.TB, b api.Block, from int, data []byte, want api.Block) {
	t.Helper()
	own, handed := b, bytes.Clone(data)
	if x, e := part.Merge(own, from, handed); x != want || e != api.OK {
		t.Errorf("Merge from %d, %d bytes: errno %d, %v; want %v", from, len(data), e, x, want)
	}
	if own != b || !bytes.Equal(handed, data) {
		t.Errorf("Merge from %d, %d bytes: what is handed in is changed", from, len(data))
	}
}

// refused holds that Merge is refused, with nothing beside the error.
func refused(t testing.TB, from, many int) {
	t.Helper()
	b, data := blockOf(1), some(many, 2)
	if x, e := part.Merge(b, from, data); x != (api.Block{}) || e != api.ErrArg {
		t.Errorf("Merge from %d, %d bytes: errno %d, %v; want errno %d alone", from, many, e, x, api.ErrArg)
	}
	if b != blockOf(1) || !bytes.Equal(data, some(many, 2)) {
		t.Errorf("Merge from %d, %d bytes: what is handed in is changed", from, many)
	}
}

// cut holds what Cut tells.
func cut(t testing.TB, b api.Block, s api.Span, want []byte) {
	t.Helper()
	own := b
	if l := part.Cut(own, s); !bytes.Equal(l, want) {
		t.Errorf("Cut of %v: %d bytes, %v; want %d, %v", s, len(l), l, len(want), want)
	}
	if own != b {
		t.Errorf("Cut of %v: what is handed in is changed", s)
	}
}

// had holds what Data tells.
func had(t testing.TB, s api.Span, at int, data, want []byte) {
	t.Helper()
	handed := bytes.Clone(data)
	if l := part.Data(s, at, handed); !bytes.Equal(l, want) {
		t.Errorf("Data of %v, of %d bytes at %d: %d bytes, %v; want %d, %v", s, len(data), at, len(l), l, len(want), want)
	}
	if !bytes.Equal(handed, data) {
		t.Errorf("Data of %v, of %d bytes at %d: what is handed in is changed", s, len(data), at)
	}
}

// allParts are all parts of a block.
func allParts(block int) []api.Span {
	var l []api.Span
	for from := range api.Sectors {
		for to := from + 1; to <= api.Sectors; to++ {
			l = append(l, api.Span{Block: block, From: from, To: to})
		}
	}
	return l
}

// bounds are numbers about a block's sectors, and the greatest and the least that there are.
func bounds() []int {
	return []int{math.MinInt, math.MinInt + 1, math.MinInt32, -256, -64, -5, -4, -3, -2, -1, 0, 1, 2, 3, 4, 5, 6, 7, 8, 64, 256, end, 1 << 62, math.MaxInt32, math.MaxInt - 1, math.MaxInt}
}

// noParts are what is no part of a block.
func noParts(block int) []api.Span {
	var l []api.Span
	for _, from := range bounds() {
		for _, to := range bounds() {
			if from < 0 || to > 4 || from >= to {
				l = append(l, api.Span{Block: block, From: from, To: to})
			}
		}
	}
	return l
}

// ats are sectors that rows of some tens may begin at, those of a row's end among them.
func ats() []int {
	var l []int
	for _, about := range []int{0, 4096, 1 << 20, 1<<29 + 2, end - 80} {
		for i := range 13 {
			l = append(l, about+i)
		}
	}
	return l
}
