package device_test

import (
	"math"
	"testing"

	"voile/api"
)

// P14.1, of Part.

// rows are At and how many sectors, of rows that touch one to nine blocks, in part and whole.
func rows() [][2]int {
	var l [][2]int
	for at := range 5 {
		for _, count := range []int{1, 2, 3, 4, 5, 8, 9, 13, 31, 32} {
			l = append(l, [2]int{at, count})
		}
	}
	return l
}

// touches is how many blocks have a sector of a row.
func touches(at, count int) int { return (at+count-1)/4 - at/4 + 1 }

// full holds that of an operation just so many blocks are done: what stands in them is as if it were done whole, all else as it was.
func full(t testing.TB, o api.Op, count, blocks, done int) {
	t.Helper()
	was, whole, p := pool(t), pool(t), pool(t)
	whole.fine(o)
	if a := p.part(o, blocks); a.Code != api.ErrFull || a.Done != done {
		t.Errorf("%v, %d blocks: %v; want errno %d, %d done", tell(o), blocks, answered(a), api.ErrFull, done)
	}
	for b := range 20 {
		want, mapped := was.d.Block(7, b)
		if b >= o.At/4 && b < o.At/4+done {
			want, mapped = whole.d.Block(7, b)
		}
		if got, is := p.d.Block(7, b); got != want || is != mapped {
			t.Errorf("%v, %d blocks: block %d: mapped? %v, want %v; or other bytes", tell(o), blocks, b, is, mapped)
		}
	}
	p.shows()
}

func TestPart(t *testing.T) {
	for _, x := range rows() {
		at, count := x[0], x[1]
		many := touches(at, count)
		for _, o := range []api.Op{writing(7, at, some(count, 120)), zeroing(7, at, count)} {
			for blocks := range many {
				full(t, o, count, blocks, blocks)
			}
			for _, blocks := range []int{-1, -2, -256, math.MinInt32, math.MinInt} {
				full(t, o, count, blocks, 0)
			}
			// Just as many, and more: it is done whole.
			for _, blocks := range []int{many, many + 1, 257, 1 << 32, most} {
				p, whole := pool(t), pool(t)
				whole.fine(o)
				if a := p.part(o, blocks); a.Code != api.OK || a.Done != 0 || len(a.Data) != 0 {
					t.Errorf("%v, %d blocks: %v", tell(o), blocks, answered(a))
				}
				if !p.d.Same(whole.d) {
					t.Errorf("%v, %d blocks: it is not done whole", tell(o), blocks)
				}
				p.shows()
			}
		}
	}
}

// As many blocks as a volume has at most.
func TestPartOfLong(t *testing.T) {
	for _, blocks := range []int{0, 1, 128, 254, 255} {
		p := made(t, creating(1, 256))
		if a := p.part(zeroing(1, 0, 1024), blocks); a.Code != api.ErrFull || a.Done != blocks || len(p.d.Mapped(1)) != blocks {
			t.Errorf("%d blocks of 256: %+v, %d are mapped", blocks, a, len(p.d.Mapped(1)))
		}
		p.shows()
	}
	p := made(t, creating(1, 256))
	if a := p.part(zeroing(1, 0, 1024), 256); a.Code != api.OK || len(p.d.Mapped(1)) != 256 {
		t.Errorf("256 blocks of 256: %+v, %d are mapped", a, len(p.d.Mapped(1)))
	}
}

// One that has an error is refused, whatever it is done of it.
func TestPartOfWrong(t *testing.T) {
	p := pool(t)
	for _, o := range []api.Op{writing(7, 79, some(2, 1)), writing(9, 0, some(1, 1)), zeroing(7, 60, 21), zeroing(7, 0, 81), zeroing(mostVolume, 3, 1024)} {
		p.wrong(o, api.ErrRange)
	}
	for _, o := range []api.Op{writing(1, 0, some(8, 1)), zeroing(1, 0, 8)} {
		p.wrong(o, api.ErrNone)
	}
	for _, o := range []api.Op{writing(7, 0, some(33, 1)), writing(7, 0, nil), zeroing(7, 0, 1025), zeroing(7, 0, 0)} {
		p.wrong(o, api.ErrArg)
	}
	p.shows()
}

// Operations of the other kinds are done whole.
func TestPartOfOthers(t *testing.T) {
	for _, o := range []api.Op{creating(1, 9), deleting(7), resizing(7, 3), resizing(7, 200), snapping(7, 1), discarding(7, 0, 9), discarding(7, 0, 20), flushing(), reading(7, 0, 80), reading(7, 3, 6)} {
		for _, blocks := range []int{math.MinInt, -1, 0, 1, 2, most} {
			p, whole := pool(t), pool(t)
			whole.fine(o)
			if a := p.part(o, blocks); a.Code != api.OK || a.Done != 0 {
				t.Errorf("%v, %d blocks: %v", tell(o), blocks, answered(a))
			}
			if !p.d.Same(whole.d) {
				t.Errorf("%v, %d blocks: it is not done whole", tell(o), blocks)
			}
			p.shows()
		}
	}
}

// What was done in part goes on, behind a discard, where it ended.
func TestPartGoesOn(t *testing.T) {
	data := some(20, 60)
	p := made(t, creating(1, 6))
	p.part(writing(1, 2, data), 2)
	p.maps(1, 0, 1)
	p.reads(1, 0, row(noughts(2), data[:6*64], noughts(16)))
	p.fine(writing(1, 8, data[6*64:]))
	p.reads(1, 0, row(noughts(2), data, noughts(2)))
	p.shows()
}
