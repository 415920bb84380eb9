package device_test

import (
	"bytes"
	"math/rand"
	"slices"
	"testing"

	"voile/api"
	"voile/device"
)

// P14.4

// world is a pair that operations are done by, as a chance, or bytes, say.
type world struct {
	*pair
	next func(n int) int
}

func (w world) number() uint64 {
	return []uint64{1, 2, 3, 4, 5, 1 << 31, mostVolume, 0, 1 << 32}[w.next(7+w.next(3))]
}

// there is a volume that there is, mostly.
func (w world) there() uint64 {
	if l := w.l.volumes(); len(l) > 0 && w.next(10) > 0 {
		return l[w.next(len(l))]
	}
	return w.number()
}

func (w world) size() int {
	return []int{0, 1, 2, 3, 5, 8, 20, 40, 255, 256, -1, 257}[w.next(10+w.next(3))]
}

// row is At and Count, about the end, or anywhere.
func (w world) row(end, longest int) (int, int) {
	count := 1 + w.next(longest)
	switch {
	case w.next(8) == 0:
		return end - count + w.next(3) - 1, count
	case end > 0:
		return w.next(end), min(count, 1+w.next(end))
	}
	return w.next(4), w.next(3)
}

// data are sectors of which many are alike.
func (w world) data(sectors int) []byte {
	b := noughts(sectors)
	for i := range sectors {
		if first := w.next(4); first > 0 {
			copy(b[i*64:], some(1, byte(first)))
		}
	}
	return b
}

// op is an operation, mostly one that may be, and has no error.
func (w world) op() api.Op {
	v := w.there()
	sectors := 4 * w.l.size(v)
	at, count := w.row(sectors, 32)
	switch w.next(16) {
	case 0, 1:
		return creating(w.number(), w.size())
	case 2:
		return deleting(v)
	case 3, 4:
		return resizing(v, w.size())
	case 5, 6:
		return snapping(v, w.number())
	case 7, 8:
		at, count = w.row(sectors, 1024)
		return zeroing(v, at, count)
	case 9, 10:
		at, count = w.row(sectors/4, 9)
		return discarding(v, at, count)
	case 11:
		return reading(v, at, count)
	case 12:
		return flushing()
	}
	return writing(v, at, w.data(max(count, 0)))
}

// act does something to the world, and tells what.
func (w world) act() (api.Op, api.Answer) {
	w.t.Helper()
	o := w.op()
	switch w.next(8) {
	case 0, 1:
		return o, w.part(o, w.next(10)-1)
	case 2:
		v := w.there()
		s := api.Spot{Volume: v, Block: w.next(max(w.l.size(v), 1)+2) - 1}
		want := api.OK
		if _, is := w.l[v]; !is {
			want = api.ErrNone
		} else if s.Block < 0 || s.Block >= w.l.size(v) {
			want = api.ErrRange
		}
		w.put(s, api.Block(w.data(4)), want)
	}
	return o, w.do(o)
}

// The device is as a table of sectors, whatever is done.
func TestWorldsByChance(t *testing.T) {
	codes := map[api.Errno]int{}
	for seed := range 40 {
		r := rand.New(rand.NewSource(int64(seed)))
		w := world{newPair(t), r.Intn}
		for i := range 300 {
			_, a := w.act()
			codes[a.Code]++
			if i%7 == 0 {
				w.shows()
			}
			if t.Failed() {
				t.Fatalf("seed %d", seed)
			}
		}
		taken(t, w.d.Bytes())
		w.shows()
	}
	for _, e := range []api.Errno{api.OK, api.ErrArg, api.ErrNone, api.ErrExists, api.ErrRange, api.ErrFull} {
		if codes[e] < 100 {
			t.Errorf("errno %d came %d times alone", e, codes[e])
		}
	}
}

// Two devices are the same just if they have the same bytes.
func TestSameBytes(t *testing.T) {
	var devices []*device.Device
	var packed [][]byte
	for seed := range 90 {
		r := rand.New(rand.NewSource(int64(seed % 60)))
		w := world{newPair(t), r.Intn}
		for range seed % 5 {
			w.do([]api.Op{creating(1, r.Intn(2)), creating(2, 1), zeroing(1, r.Intn(2), 1), writing(1, 0, some(1, byte(r.Intn(2)))), discarding(1, 0, 1), resizing(1, 1), snapping(1, 2), deleting(2)}[r.Intn(8)])
		}
		for range seed / 30 * 3 {
			w.act()
		}
		devices, packed = append(devices, w.d, w.d.Copy()), append(packed, w.d.Bytes(), w.d.Bytes())
	}
	alike := 0
	for i, d := range devices {
		for j, o := range devices {
			same := bytes.Equal(packed[i], packed[j])
			if d.Same(o) != same {
				t.Fatalf("%v, %v: the same? %v", packed[i], packed[j], d.Same(o))
			}
			if same && i != j {
				alike++
			}
		}
	}
	if alike < 300 || alike > len(devices)*len(devices)/2 {
		t.Errorf("%d of %d devices: %d pairs are alike", len(devices), len(devices), alike)
	}
}

// stamp is a sector that nobody else has.
func stamp(n int) []byte {
	b := some(1, byte(n))
	copy(b, []byte{byte(n), byte(n >> 8), byte(n >> 16), 1})
	return b
}

// What was written is read, until something else is written there, or it is discarded, or cut off.
func TestWrittenIsRead(t *testing.T) {
	r := rand.New(rand.NewSource(41))
	d := device.New()
	do := func(o api.Op) {
		if a := d.Do(o); a.Code != api.OK {
			t.Fatalf("%v: errno %d", tell(o), a.Code)
		}
	}
	do(creating(1, 16))
	do(creating(2, 16))
	// What stands in each sector of 1, as it was written last.
	written := make([][]byte, 64)
	for i := range written {
		written[i] = noughts(1)
	}
	for n := range 3000 {
		at := r.Intn(60)
		count := 1 + r.Intn(min(64-at, 20))
		switch r.Intn(8) {
		case 0:
			do(discarding(1, at/4, 1))
			for i := range 4 {
				written[at/4*4+i] = noughts(1)
			}
		case 1:
			if r.Intn(5) == 0 {
				do(resizing(1, at/4))
				do(resizing(1, 16))
				for i := at / 4 * 4; i < 64; i++ {
					written[i] = noughts(1)
				}
			}
		case 2:
			do(zeroing(1, at, min(count, 3)))
			for i := range min(count, 3) {
				written[at+i] = noughts(1)
			}
		case 3:
			// What is done elsewhere, or looks alone, changes nothing.
			do(writing(2, at, stamp(n)))
			do(reading(1, at, count))
			do(flushing())
			do(snapping(1, uint64(3+n)))
			do(deleting(uint64(3 + n)))
		default:
			var data []byte
			for i := range count {
				written[at+i] = stamp(n<<8 + i)
				data = append(data, written[at+i]...)
			}
			do(writing(1, at, data))
		}
		if a := d.Do(reading(1, 0, 64)); a.Code != api.OK || !bytes.Equal(a.Data, row(written...)) {
			t.Fatalf("step %d: what was written is not read", n)
		}
	}
}

// A snapshot does not change by what is done to its volume, nor by what is done to any other one.
func TestSnapshotsStay(t *testing.T) {
	type shot struct {
		size   int
		mapped []int
		data   []byte
	}
	look := func(w world, v uint64) shot {
		size, _ := w.d.Size(v)
		return shot{size, w.d.Mapped(v), w.d.Do(reading(v, 0, max(size*4, 1))).Data}
	}
	for seed := range 30 {
		r := rand.New(rand.NewSource(int64(seed)))
		w := world{newPair(t), r.Intn}
		shots := map[uint64]shot{}
		for i := range 120 {
			if v := w.there(); i%8 == 7 {
				to := uint64(1000 + i)
				if a := w.do(snapping(v, to)); a.Code == api.OK {
					shots[to] = look(w, v)
				}
			}
			// Nothing is done to a snapshot but to take one of it.
			if o := w.op(); o.Volume < 1000 || o.Volume > 2000 || o.Kind == api.OpSnap {
				w.do(o)
			}
			for v, want := range shots {
				if got := look(w, v); got.size != want.size || !slices.Equal(got.mapped, want.mapped) || !bytes.Equal(got.data, want.data) {
					t.Fatalf("seed %d: step %d: the snapshot %d is another", seed, i, v)
				}
			}
		}
	}
}

// An operation that is refused has the answer again; one of a whole device and one of its copy are alike.
func TestAgain(t *testing.T) {
	for seed := range 10 {
		r := rand.New(rand.NewSource(int64(seed)))
		w := world{newPair(t), r.Intn}
		for range 150 {
			copied := w.d.Copy()
			o, blocks := w.op(), r.Intn(6)-1
			whole, parted := copied.Copy(), copied.Copy()
			a := w.do(o)
			if b := whole.Do(o); b.Code != a.Code || !bytes.Equal(b.Data, a.Data) || !whole.Same(w.d) {
				t.Fatalf("seed %d: %v: done to a copy, it is another", seed, tell(o))
			}
			if a.Code != api.OK {
				if b := w.do(o); b.Code != a.Code || !copied.Same(w.d) {
					t.Fatalf("seed %d: %v: refused by %d, then by %d", seed, tell(o), a.Code, b.Code)
				}
			}
			// What is done in part, and then whole, is as what is done whole.
			if b := parted.Part(o, blocks); b.Code == api.ErrFull {
				parted.Do(o)
				if !parted.Same(w.d) {
					t.Fatalf("seed %d: %v, %d blocks, then whole: another device", seed, tell(o), blocks)
				}
			}
		}
	}
}

// FuzzDevice does what bytes tell; they are read as a device's, too. P0.6: no call panics.
func FuzzDevice(f *testing.F) {
	for _, p := range few(f) {
		f.Add(p.d.Bytes(), []byte("volumes are made and written, cut and let go"))
	}
	f.Add([]byte{1, 0, 0, 0, 7, 0, 0, 0, 3, 0, 0, 0, 0, 0, 0, 0}, []byte{0, 0, 0, 1, 2, 3, 200, 100, 50, 7})
	f.Fuzz(func(t *testing.T, b, l []byte) {
		taken(t, b)
		l = l[:min(len(l), 400)]
		at := 0
		w := world{newPair(t), func(n int) int {
			if at == len(l) {
				return 0
			}
			at++
			return int(l[at-1]) % n
		}}
		if read, is := plainOf(b); is {
			w.l = read
			w.d, _ = device.Of(b)
		}
		for at < len(l) {
			w.act()
		}
		w.shows()
		taken(t, w.d.Bytes())
	})
}
