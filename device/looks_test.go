package device_test

import (
	"bytes"
	"math"
	"slices"
	"testing"

	"voile/api"
	"voile/device"
)

// P14.2

// put puts a block, and holds the error, and that what is refused changes nothing.
func (p *pair) put(s api.Spot, b api.Block, want api.Errno) {
	p.t.Helper()
	was := p.d.Bytes()
	if e := p.d.Put(s, b); e != want {
		p.t.Errorf("Put(%v): errno %d; want %d", s, e, want)
	}
	if want != api.OK {
		if !bytes.Equal(p.d.Bytes(), was) {
			p.t.Errorf("Put(%v): errno %d, and something is changed", s, want)
		}
		return
	}
	x := p.l[s.Volume]
	x.mapped[s.Block] = true
	for i := range 4 {
		x.sectors[s.Block*4+i] = api.Sector(b[i*64 : i*64+64])
	}
}

func TestPut(t *testing.T) {
	p := pool(t)
	for i, s := range []api.Spot{{Volume: 7, Block: 0}, {Volume: 7, Block: 19}, {Volume: 7, Block: 5}, {Volume: 8, Block: 0}, {Volume: 8, Block: 4}, {Volume: mostVolume, Block: 255}, {Volume: mostVolume, Block: 7}} {
		p.put(s, blockOf(byte(i)), api.OK)
		p.shows()
		p.put(s, api.Block{}, api.OK)
		if _, is := p.d.Block(s.Volume, s.Block); !is {
			t.Errorf("Put(%v) of noughts: it is not mapped", s)
		}
		p.shows()
		p.put(s, blockOf(byte(i+100)), api.OK)
	}
	p.shows()
}

// A block that was put is its volume's alone.
func TestPutGoesApart(t *testing.T) {
	p := pool(t)
	p.fine(snapping(7, 1))
	p.put(api.Spot{Volume: 7, Block: 0}, blockOf(1), api.OK)
	p.put(api.Spot{Volume: 1, Block: 1}, blockOf(2), api.OK)
	p.put(api.Spot{Volume: 1, Block: 9}, blockOf(3), api.OK)
	p.shows()
	copied, l := p.d.Copy(), p.l.copied()
	p.put(api.Spot{Volume: 7, Block: 0}, blockOf(4), api.OK)
	p.shows()
	shows(t, copied, l)
}

func TestPutRefused(t *testing.T) {
	p := pool(t)
	b := blockOf(1)
	for _, v := range []uint64{0, 1, 6, 10, 1<<32 + 7, 1 << 63, math.MaxUint64} {
		for _, n := range []int{0, -1, 300, most} {
			p.put(api.Spot{Volume: v, Block: n}, b, api.ErrNone)
		}
	}
	for _, v := range []uint64{7, 8, 9, mostVolume} {
		size, _ := p.d.Size(v)
		for _, n := range []int{math.MinInt, -256, -1, size, size + 1, 256, 257, 1 << 32, most} {
			p.put(api.Spot{Volume: v, Block: n}, b, api.ErrRange)
		}
	}
	p.shows()
	for _, d := range []*device.Device{nil, {}} {
		for _, s := range []api.Spot{{}, {Volume: 1}, {Volume: 7, Block: -1}} {
			if e := d.Put(s, b); e != api.ErrNil {
				t.Errorf("Put to none: errno %d; want %d", e, api.ErrNil)
			}
		}
	}
}

// Rising, in whatever order they came.
func TestRising(t *testing.T) {
	p := newPair(t)
	for _, v := range []uint64{9, 3, mostVolume, 1, 1 << 31, 256, 2} {
		p.fine(creating(v, 256))
		for _, b := range []int{200, 3, 255, 0, 17, 4, 128} {
			p.fine(writing(v, b*4, some(1, byte(v)+byte(b))))
		}
	}
	if l := p.d.Volumes(); !slices.Equal(l, []uint64{1, 2, 3, 9, 256, 1 << 31, mostVolume}) {
		t.Errorf("Volumes: %v", l)
	}
	p.maps(9, 0, 3, 4, 17, 128, 200, 255)
	p.shows()
}

func TestBlock(t *testing.T) {
	p := pool(t)
	if b, is := p.d.Block(7, 1); b != api.Block(some(6, 1)[64:320]) || !is {
		t.Errorf("a mapped block: mapped? %v, or other bytes", is)
	}
	for _, s := range []api.Spot{{Volume: 7, Block: 5}, {Volume: 8, Block: 0}, {Volume: 7, Block: 20}, {Volume: 7, Block: -1}, {Volume: 9, Block: 0}, {Volume: 1, Block: 0}} {
		if b, is := p.d.Block(s.Volume, s.Block); b != (api.Block{}) || is {
			t.Errorf("Block(%v): %v, %v; it is not mapped", s, is, b)
		}
	}
	// What was answered is the caller's.
	b, _ := p.d.Block(7, 1)
	b[0] ^= 1
	p.shows()
}

// What is answered is the caller's: to change it changes nothing.
func TestListsAreTheCallers(t *testing.T) {
	p := pool(t)
	clear(p.d.Volumes())
	clear(p.d.Mapped(7))
	clear(p.d.Bytes())
	clear(p.d.Do(reading(7, 0, 80)).Data)
	for _, b := range p.d.All() {
		clear(b[:])
	}
	p.shows()
}

func TestAllIsLeft(t *testing.T) {
	p := pool(t)
	want := p.l.all()
	all := p.d.All()
	for many := 1; many <= len(want); many++ {
		if got := gone(p.d, many); !slices.Equal(got, want[:many]) {
			t.Errorf("All, left behind %d: %v; want %v, or other bytes", many, spots(got), spots(want[:many]))
		}
		// The same one, again and again.
		var l []spot
		for s, b := range all {
			if l = append(l, spot{s, b}); len(l) == many {
				break
			}
		}
		if !slices.Equal(l, want[:many]) {
			t.Errorf("All, gone through again, left behind %d: %v; want %v, or other bytes", many, spots(l), spots(want[:many]))
		}
	}
}

// One that goes over it within one that goes over it.
func TestAllWithinAll(t *testing.T) {
	p := pool(t)
	all, many := p.d.All(), 0
	for range all {
		for range all {
			many++
		}
	}
	if n := len(p.l.all()); many != n*n {
		t.Errorf("All within All: %d; want %d", many, n*n)
	}
}

// All goes over the blocks as they were when it was called, whatever is done meanwhile.
func TestAllAsItWas(t *testing.T) {
	for _, o := range []api.Op{
		writing(7, 0, some(32, 200)), zeroing(7, 0, 80), discarding(7, 0, 20), resizing(7, 0), resizing(7, 1), deleting(7), deleting(mostVolume),
		creating(1, 4), snapping(7, 1), snapping(mostVolume, 100), writing(8, 0, some(4, 1)), writing(mostVolume, 0, some(32, 1)),
	} {
		p := pool(t)
		want := p.l.all()
		// Done between the call and the going, and while it is gone over.
		all := p.d.All()
		p.fine(o)
		for range 2 {
			if got := collected(all, func() {}); !slices.Equal(got, want) {
				t.Errorf("All, behind %v: %v; want %v, or other bytes", tell(o), spots(got), spots(want))
			}
		}
		p.shows()
		for at := range want {
			p := pool(t)
			i := 0
			got := collected(p.d.All(), func() {
				if i == at {
					p.fine(o)
				}
				i++
			})
			if !slices.Equal(got, want) {
				t.Errorf("All, %v behind %d: %v; want %v, or other bytes", tell(o), at, spots(got), spots(want))
			}
		}
	}
	p := pool(t)
	want := p.l.all()
	all := p.d.All()
	p.put(api.Spot{Volume: 7, Block: 0}, blockOf(77), api.OK)
	p.put(api.Spot{Volume: 8, Block: 0}, blockOf(78), api.OK)
	if got := collected(all, func() {}); !slices.Equal(got, want) {
		t.Errorf("All, behind a Put: %v; want %v, or other bytes", spots(got), spots(want))
	}
}

// collected are what is gone over; something is done at each.
func collected(all func(yield func(api.Spot, api.Block) bool), do func()) []spot {
	var l []spot
	for s, b := range all {
		l = append(l, spot{s, b})
		do()
	}
	return l
}
