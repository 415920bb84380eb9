package part_test

import (
	"math"
	"slices"
	"testing"

	"voile/api"
	"voile/part"
)

// P12.1

// The example of the chapter.
func TestExample(t *testing.T) {
	want := []api.Span{{Block: 0, From: 3, To: 4}, {Block: 1, From: 0, To: 4}, {Block: 2, From: 0, To: 1}}
	if l := part.Split(3, 6); !slices.Equal(l, want) {
		t.Errorf("%v; want %v", l, want)
	}
	told(t, 3, 6, []step{{0, want[0]}, {1, want[1]}, {5, want[2]}})
}

func TestEdges(t *testing.T) {
	lists := []struct {
		what      string
		at, count int
		want      []step
	}{
		{"one sector, a block's first", 0, 1, []step{{0, api.Span{Block: 0, From: 0, To: 1}}}},
		{"one sector, a block's second", 1, 1, []step{{0, api.Span{Block: 0, From: 1, To: 2}}}},
		{"one sector, a block's third", 2, 1, []step{{0, api.Span{Block: 0, From: 2, To: 3}}}},
		{"one sector, a block's last", 3, 1, []step{{0, api.Span{Block: 0, From: 3, To: 4}}}},
		{"one sector, another block's first", 4, 1, []step{{0, api.Span{Block: 1, From: 0, To: 1}}}},
		{"one sector, another block's last", 403, 1, []step{{0, api.Span{Block: 100, From: 3, To: 4}}}},
		{"just one block", 0, 4, []step{{0, api.Span{Block: 0, From: 0, To: 4}}}},
		{"just one block, another", 28, 4, []step{{0, api.Span{Block: 7, From: 0, To: 4}}}},
		{"just several", 8, 12, []step{{0, api.Span{Block: 2, From: 0, To: 4}}, {4, api.Span{Block: 3, From: 0, To: 4}}, {8, api.Span{Block: 4, From: 0, To: 4}}}},
		{"from and to the middle", 6, 8, []step{{0, api.Span{Block: 1, From: 2, To: 4}}, {2, api.Span{Block: 2, From: 0, To: 4}}, {6, api.Span{Block: 3, From: 0, To: 2}}}},
		{"from the middle", 5, 7, []step{{0, api.Span{Block: 1, From: 1, To: 4}}, {3, api.Span{Block: 2, From: 0, To: 4}}}},
		{"to the middle", 4, 7, []step{{0, api.Span{Block: 1, From: 0, To: 4}}, {4, api.Span{Block: 2, From: 0, To: 3}}}},
		{"two sectors of two blocks", 7, 2, []step{{0, api.Span{Block: 1, From: 3, To: 4}}, {1, api.Span{Block: 2, From: 0, To: 1}}}},
		{"within a block", 5, 2, []step{{0, api.Span{Block: 1, From: 1, To: 3}}}},
		{"a block's beginning", 4, 3, []step{{0, api.Span{Block: 1, From: 0, To: 3}}}},
		{"a block's end", 5, 3, []step{{0, api.Span{Block: 1, From: 1, To: 4}}}},
		{"ends at 2^30, one sector", end - 1, 1, []step{{0, api.Span{Block: endBlock - 1, From: 3, To: 4}}}},
		{"ends at 2^30, one block", end - 4, 4, []step{{0, api.Span{Block: endBlock - 1, From: 0, To: 4}}}},
		{"ends at 2^30, five sectors", end - 5, 5, []step{{0, api.Span{Block: endBlock - 2, From: 3, To: 4}}, {1, api.Span{Block: endBlock - 1, From: 0, To: 4}}}},
		{"ends ahead of 2^30", end - 5, 4, []step{{0, api.Span{Block: endBlock - 2, From: 3, To: 4}}, {1, api.Span{Block: endBlock - 1, From: 0, To: 3}}}},
	}
	for _, c := range lists {
		t.Run(c.what, func(t *testing.T) { told(t, c.at, c.count, c.want) })
	}
}

func TestRows(t *testing.T) {
	for _, at := range ats() {
		for count := 1; count <= 40; count++ {
			told(t, at, count, plainSteps(at, count))
		}
	}
}

// A row of many blocks, and rows of nearly all that there are.
func TestLongRows(t *testing.T) {
	for _, at := range []int{0, 3, 4097, end - 100003} {
		told(t, at, 100003, plainSteps(at, 100003))
	}
	for _, c := range []struct{ at, count, want int }{
		{0, end, endBlock}, {0, end - 1, endBlock}, {0, end - 3, endBlock}, {0, end - 4, endBlock - 1}, {1, end - 1, endBlock},
		{3, end - 3, endBlock}, {4, end - 4, endBlock - 1}, {3, end - 6, endBlock}, {3, end - 7, endBlock - 1}, {3, end - 8, endBlock - 1},
		{end / 2, end / 2, endBlock / 2}, {end/2 - 1, end/2 + 1, endBlock/2 + 1}, {1, 1 << 29, 1<<27 + 1},
	} {
		if n := part.Blocks(c.at, c.count); n != c.want {
			t.Errorf("Blocks(%d, %d): %d; want %d", c.at, c.count, n, c.want)
		}
		l := gone(c.at, c.count, 50)
		if want := plainSteps(c.at, 200)[:50]; !slices.Equal(l, want) {
			t.Errorf("Over(%d, %d) begins with %v; want %v", c.at, c.count, l, want)
		}
	}
}

// What is left at a place went that far, and is gone through again from its beginning.
func TestLeft(t *testing.T) {
	for _, row := range []struct{ at, count int }{{3, 6}, {0, 1}, {0, 4}, {5, 30}, {end - 17, 17}} {
		over := part.Over(row.at, row.count)
		want := plainSteps(row.at, row.count)
		for left := range len(want) + 1 {
			var l []step
			for ahead, s := range over {
				if len(l) == left {
					break
				}
				l = append(l, step{ahead, s})
			}
			if !slices.Equal(l, want[:left]) {
				t.Errorf("%v, left at %d: %v; want %v", row, left, l, want[:left])
			}
			for range 2 {
				var again []step
				for ahead, s := range over {
					if again = append(again, step{ahead, s}); len(again) > len(want) {
						break
					}
				}
				if !slices.Equal(again, want) {
					t.Errorf("%v, left at %d, and gone through again: %v; want %v", row, left, again, want)
				}
			}
		}
	}
}

// One that is left goes no further: what is handed to it is not asked again.
func TestLeftForGood(t *testing.T) {
	asked := 0
	part.Over(0, 40)(func(int, api.Span) bool {
		asked++
		return asked < 3
	})
	if asked != 3 {
		t.Errorf("asked %d times; want 3", asked)
	}
}

// One is gone through within another, of the same row or not, and within itself.
func TestWithin(t *testing.T) {
	outer, other := part.Over(3, 14), part.Over(6, 9)
	want, wantOther := plainSteps(3, 14), plainSteps(6, 9)
	var l []step
	for ahead, s := range outer {
		l = append(l, step{ahead, s})
		var same, own []step
		for ahead, s := range outer {
			if len(same) == len(l) {
				break
			}
			same = append(same, step{ahead, s})
		}
		for ahead, s := range other {
			own = append(own, step{ahead, s})
		}
		if !slices.Equal(same, want[:len(l)]) || !slices.Equal(own, wantOther) {
			t.Errorf("within the part %v: %v, %v", s, same, own)
		}
	}
	if !slices.Equal(l, want) {
		t.Errorf("%v; want %v", l, want)
	}
}

// Whole is what a part's From and To say, whatever the block.
func TestWhole(t *testing.T) {
	for _, block := range []int{0, 1, 7, -1, endBlock - 1, endBlock, endBlock + 1, math.MinInt, math.MaxInt} {
		for _, from := range bounds() {
			for _, to := range bounds() {
				s := api.Span{Block: block, From: from, To: to}
				if is, want := part.Whole(s), from == 0 && to == 4; is != want {
					t.Errorf("Whole(%v): %v; want %v", s, is, want)
				}
			}
		}
	}
}

// P12.2

func TestMergeExample(t *testing.T) {
	one, two := api.Sector{0: 1, 63: 2}, api.Sector{0: 3, 63: 4}
	x, e := part.Merge(api.Block{0: 9, 64: 8, 128: 7, 192: 6, 255: 5}, 1, append(slices.Clone(one[:]), two[:]...))
	if want := (api.Block{0: 9, 64: 1, 127: 2, 128: 3, 191: 4, 192: 6, 255: 5}); x != want || e != api.OK {
		t.Errorf("errno %d, %v; want %v", e, x, want)
	}
}

// From each sector, all that a block has from there on, and less, and nothing.
func TestMerge(t *testing.T) {
	for from := range api.Sectors + 1 {
		for many := range api.Sectors - from + 1 {
			b, data := blockOf(1), some(many*api.SectorSize, 131)
			merged(t, b, from, data, plainMerged(b, from, data))
			merged(t, api.Block{}, from, data, plainMerged(api.Block{}, from, data))
			merged(t, b, from, make([]byte, len(data)), plainMerged(b, from, make([]byte, len(data))))
		}
		merged(t, blockOf(1), from, nil, blockOf(1))
		merged(t, blockOf(1), from, []byte{}, blockOf(1))
	}
	data := blockOf(131)
	merged(t, blockOf(1), 0, data[:], data)
}

func TestCut(t *testing.T) {
	b := blockOf(1)
	cut(t, b, api.Span{From: 0, To: 4}, b[:])
	cut(t, b, api.Span{From: 1, To: 3}, b[64:192])
	cut(t, b, api.Span{From: 3, To: 4}, b[192:])
	cut(t, b, api.Span{From: 0, To: 1}, b[:64])
	// A part's block says nothing of the bytes.
	for _, block := range []int{0, 5, endBlock, endBlock + 1, -1, math.MinInt, math.MaxInt} {
		for _, s := range allParts(block) {
			cut(t, b, s, plainCut(b, s))
		}
	}
}

// Data that begin ahead of a part, in it, behind it; that end ahead of it, in it, behind it; with bytes behind the last whole sector, and without.
func TestData(t *testing.T) {
	for _, block := range []int{0, 1, 2, 1000, endBlock - 2, endBlock - 1, endBlock} {
		for _, s := range allParts(block) {
			for at := max(block*4-9, 0); at <= min(block*4+9, end); at++ {
				for many := range 15 {
					for _, behind := range []int{0, 1, 63} {
						data := some(many*api.SectorSize+behind, byte(at))
						had(t, s, at, data, plainData(s, at, data))
					}
				}
			}
		}
	}
}

func TestDataEdges(t *testing.T) {
	data := some(8*api.SectorSize, 1)
	middle := api.Span{Block: 5, From: 1, To: 3} // the sectors 21 and 22
	lists := []struct {
		what string
		s    api.Span
		at   int
		data []byte
		want []byte
	}{
		{"no sectors", middle, 21, nil, nil},
		{"no whole sector", middle, 21, data[:63], nil},
		{"one sector, the part's first", middle, 21, data[:64], data[:64]},
		{"one sector, the part's last", middle, 22, data[:64], data[:64]},
		{"one sector, ahead of the part", middle, 20, data[:64], nil},
		{"one sector, behind the part", middle, 23, data[:64], nil},
		{"one sector, and bytes behind it", middle, 21, data[:127], data[:64]},
		{"just the part's", middle, 21, data[:128], data[:128]},
		{"all from the part on", middle, 21, data, data[:128]},
		{"all from ahead of the part on", middle, 17, data, data[256:384]},
		{"that end in the part", middle, 14, data, data[448:]},
		{"that end where the part begins", middle, 13, data, nil},
		{"that begin in the part", middle, 22, data, data[:64]},
		{"that begin where the part ends", middle, 23, data, nil},
		{"the whole block's", api.Span{Block: 5, From: 0, To: 4}, 18, data, data[128:384]},
		{"the block's from its beginning on", api.Span{Block: 5, From: 0, To: 4}, 20, data[:192], data[:192]},
		{"of another block", middle, 25, data, nil},
		{"the first sector of all", api.Span{Block: 0, From: 0, To: 1}, 0, data, data[:64]},
		{"the last sector of all", api.Span{Block: endBlock - 1, From: 3, To: 4}, end - 1, data[:64], data[:64]},
		{"the block 2^28", api.Span{Block: endBlock, From: 0, To: 4}, end - 4, data, data[256:]},
		{"from 2^30 on", api.Span{Block: endBlock, From: 1, To: 4}, end, data, data[64:256]},
		{"from 2^30 on, of the block ahead of it", api.Span{Block: endBlock - 1, From: 0, To: 4}, end, data, nil},
		{"of the first block and the last", api.Span{Block: endBlock, From: 0, To: 4}, 0, data, nil},
		{"from 2^30 on, of the first block", api.Span{Block: 0, From: 0, To: 4}, end, data, nil},
	}
	for _, c := range lists {
		t.Run(c.what, func(t *testing.T) { had(t, c.s, c.at, c.data, c.want) })
	}
}
