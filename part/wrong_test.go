package part_test

import (
	"math"
	"testing"

	"voile/api"
	"voile/part"
)

// What is no row has no parts.
func TestNoRows(t *testing.T) {
	for _, at := range []int{-1, -2, -4, -100, -end, math.MinInt32, math.MinInt, math.MinInt + 1} {
		for _, count := range []int{1, 2, 4, 5, 6, 100, 101, end, end + 1, math.MaxInt, math.MinInt, 0, -1} {
			told(t, at, count, nil)
		}
	}
	for _, at := range []int{0, 1, 3, 4, 1000, end - 1, end, end + 1, math.MaxInt} {
		for _, count := range []int{0, -1, -2, -4, -1000, -end, math.MinInt, math.MinInt + 1, math.MinInt + end} {
			told(t, at, count, nil)
		}
		for _, above := range []int{1, 2, 3, 4, 5, 1000} {
			if at < end {
				told(t, at, end-at+above, nil)
			}
		}
		for _, count := range []int{end + 1, 1 << 31, 1 << 62, math.MaxInt - end, math.MaxInt - 1, math.MaxInt} {
			told(t, at, count, nil)
		}
	}
	for _, at := range []int{end, end + 1, end + 4, 1 << 31, 1 << 62, math.MaxInt - 4, math.MaxInt - 1, math.MaxInt} {
		for _, count := range []int{1, 2, 4, 5, end, 1 << 62, math.MaxInt - 1, math.MaxInt} {
			told(t, at, count, nil)
		}
	}
}

// What is no row may be gone over, and has nothing.
func TestNoRowsOver(t *testing.T) {
	for _, row := range []struct{ at, count int }{{-1, 5}, {0, 0}, {5, -1}, {end, 1}, {1, end}, {math.MaxInt, math.MaxInt}, {math.MinInt, math.MinInt}} {
		over := part.Over(row.at, row.count)
		if over == nil {
			t.Fatalf("%v: nothing to go over", row)
		}
		for range 2 {
			for ahead, s := range over {
				t.Fatalf("%v: %d, %v", row, ahead, s)
			}
		}
	}
}

func TestMergeWrong(t *testing.T) {
	// Data that are not whole sectors, wherever they would stand.
	for from := range api.Sectors + 1 {
		for _, many := range []int{1, 2, 63, 65, 127, 129, 191, 193, 255, 257, 320 - 1} {
			refused(t, from, many)
		}
	}
	// From below 0, and above 4, of whatever data.
	for _, from := range bounds() {
		if from >= 0 && from <= 4 {
			continue
		}
		for _, many := range []int{0, 1, 64, 128, 256, 320, 1024} {
			refused(t, from, many)
		}
	}
	// More than the block has from there on.
	for from := range api.Sectors + 1 {
		for more := 1; more <= 6; more++ {
			refused(t, from, (4-from+more)*64)
		}
		refused(t, from, 1<<20)
	}
}

// From numbers whose bytes, in an int, come about to 0 or to a place in the block.
func TestMergeWraps(t *testing.T) {
	for i := range 256 {
		for _, from := range []int{math.MinInt + i<<58, math.MinInt + i<<58 + 1} {
			if from < 0 || from > 4 {
				refused(t, from, 64)
				refused(t, from, 0)
			}
		}
	}
}

func TestCutWrong(t *testing.T) {
	b := blockOf(1)
	for _, block := range []int{0, 3, -1, endBlock, endBlock + 1, math.MaxInt, math.MinInt} {
		for _, s := range noParts(block) {
			cut(t, b, s, nil)
		}
	}
}

// What is no part of a block, of data that have all that stands about there.
func TestDataNoPart(t *testing.T) {
	data := some(40*api.SectorSize, 1)
	for _, block := range []int{0, 1, 4, 10, endBlock - 1, endBlock} {
		for _, s := range noParts(block) {
			for _, at := range []int{max(block*4-8, 0), min(block*4, end), min(block*4+1, end)} {
				had(t, s, at, data, nil)
			}
		}
	}
}

// A block that may not be, of data that have what would be its.
func TestDataNoBlock(t *testing.T) {
	data := some(40*api.SectorSize, 1)
	for _, block := range []int{-1, -2, -5, -endBlock, math.MinInt, math.MinInt / 4, math.MinInt/4 + 1, endBlock + 1, endBlock + 2, endBlock + 5, end, math.MaxInt, math.MaxInt / 4, math.MaxInt/4 + 1, 1 << 62, 1<<62 + 1} {
		for _, s := range allParts(block) {
			for _, at := range []int{0, 1, 4, 100, end - 1, end} {
				had(t, s, at, data, nil)
			}
		}
	}
}

// An at that may not be, of data that have what would be a part's.
func TestDataNoAt(t *testing.T) {
	data := some(40*api.SectorSize, 1)
	for _, at := range []int{-1, -2, -4, -5, -end, math.MinInt, math.MinInt + 1, math.MinInt32, end + 1, end + 2, end + 4, end + 5, math.MaxInt, math.MaxInt - 1, 1 << 62} {
		for _, block := range []int{0, 1, 2, endBlock - 1, endBlock} {
			for _, s := range allParts(block) {
				had(t, s, at, data, nil)
			}
		}
	}
}
