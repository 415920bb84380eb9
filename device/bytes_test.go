package device_test

import (
	"bytes"
	"math"
	"math/rand"
	"slices"
	"testing"

	"voile/api"
	"voile/device"
)

// P14.3

// taken holds what Of tells of bytes, whether they are a device's or not.
func taken(t testing.TB, b []byte) {
	t.Helper()
	handed := bytes.Clone(b)
	l, is := plainOf(b)
	d, e := device.Of(handed)
	if !bytes.Equal(handed, b) {
		t.Fatalf("Of(%v): what is handed in is changed", b)
	}
	if !is {
		if d != nil || e != api.ErrBytes {
			t.Errorf("Of(%v): %v, errno %d; want errno %d alone", b, d, e, api.ErrBytes)
		}
		return
	}
	if d == nil || e != api.OK {
		t.Fatalf("Of(%v): %v, errno %d; want a device", b, d, e)
	}
	overwrite(handed)
	out := d.Bytes()
	if !bytes.Equal(out, b) {
		t.Errorf("%v are read, and packed as %v", b, out)
	}
	overwrite(out)
	shows(t, d, l)
}

// bad holds that bytes are no device's.
func bad(t testing.TB, what string, b []byte) {
	t.Helper()
	if _, is := plainOf(b); is {
		t.Errorf("%s: they are a device's", what)
	}
	if d, e := device.Of(bytes.Clone(b)); d != nil || e != api.ErrBytes {
		t.Errorf("%s: %v, errno %d; want errno %d alone", what, d, e, api.ErrBytes)
	}
}

// The chapter's bytes, told one by one.
func TestBytes(t *testing.T) {
	if b := device.New().Bytes(); !bytes.Equal(b, []byte{0, 0, 0, 0}) {
		t.Errorf("no volumes: %v", b)
	}
	p := made(t, creating(0x01020304, 256), creating(7, 20), writing(7, 17, []byte("abcdefghabcdefghabcdefghabcdefghabcdefghabcdefghabcdefghabcdefgh")), zeroing(7, 0, 1))
	want := []byte{2, 0, 0, 0, 7, 0, 0, 0, 20, 0, 0, 0, 2, 0, 0, 0, 0, 0, 0, 0}
	want = append(want, make([]byte, 256)...)
	want = append(want, 4, 0, 0, 0)
	want = append(want, make([]byte, 64)...)
	for range 8 {
		want = append(want, "abcdefgh"...)
	}
	want = append(want, make([]byte, 128)...)
	want = append(want, 4, 3, 2, 1, 0, 1, 0, 0, 0, 0, 0, 0)
	if b := p.d.Bytes(); !bytes.Equal(b, want) {
		t.Errorf("Bytes: %v; want %v", b, want)
	}
	d, e := device.Of(want)
	if e != api.OK || !d.Same(p.d) {
		t.Errorf("Of: errno %d", e)
	}
	shows(t, d, p.l)
}

// few are some devices of few bytes.
func few(t testing.TB) []*pair {
	return []*pair{
		newPair(t), made(t, creating(1, 0)), made(t, creating(mostVolume, 256)), made(t, creating(1, 3), creating(2, 3), creating(300, 1)),
		made(t, creating(1, 1), writing(1, 1, some(2, 3))), made(t, creating(5, 256), writing(5, 0, some(4, 1)), zeroing(5, 1020, 4), creating(6, 256)),
		made(t, creating(256, 9), writing(256, 8, some(5, 1)), snapping(256, 2), discarding(2, 3, 1)),
	}
}

func TestThereAndBack(t *testing.T) {
	for _, p := range append(few(t), pool(t)) {
		b := p.d.Bytes()
		if !bytes.Equal(b, p.l.bytes()) {
			t.Errorf("Bytes: %v; want %v", b, p.l.bytes())
		}
		taken(t, b)
		d, e := device.Of(b)
		if e != api.OK || !d.Same(p.d) || !p.d.Same(d) {
			t.Errorf("%v: errno %d, or another device", b, e)
		}
		// It goes on as any other one does.
		p.d = d
		p.do(creating(77, 4))
		p.do(writing(77, 3, some(4, 9)))
		p.do(resizing(5, 2))
		p.do(discarding(256, 1, 8))
		p.do(deleting(1))
		p.shows()
	}
}

// One byte less, or more, are no device's.
func TestOtherLengths(t *testing.T) {
	for _, p := range few(t) {
		b := p.d.Bytes()
		for n := range b {
			bad(t, "cut", b[:n])
		}
		for x := range 3 {
			bad(t, "a byte more", append(bytes.Clone(b), byte(x)))
		}
		bad(t, "twice", append(bytes.Clone(b), b...))
	}
	bad(t, "none", nil)
	bad(t, "none", []byte{})
}

// Each byte changed: no device's, or just the device whose bytes they then are.
func TestEachByteChanged(t *testing.T) {
	devices, others := 0, 0
	for _, p := range few(t) {
		b := p.d.Bytes()
		for at := range b {
			for _, x := range []byte{1, 2, 0x80, 0xFF, b[at], b[at] ^ 3} {
				c := bytes.Clone(b)
				c[at] ^= x
				taken(t, c)
				if d, e := device.Of(c); e == api.OK {
					if d.Same(p.d) != (x == 0) {
						t.Errorf("byte %d of %v changed: the same device? %v", at, b, d.Same(p.d))
					}
					devices++
				} else {
					others++
				}
			}
		}
	}
	if devices < 1000 || others < 100 {
		t.Errorf("only %d were devices, %d none", devices, others)
	}
}

// told is a volume as bytes, with what is told of it, right or not.
func told(v, size, mapped uint64, blocks ...uint64) []byte {
	b := number(number(number(nil, v), size), mapped)
	for _, n := range blocks {
		b = append(number(b, n), some(4, byte(n))...)
	}
	return b
}

func TestNoDevices(t *testing.T) {
	volumes := func(many uint64, l ...[]byte) []byte { return append(number(nil, many), row(l...)...) }
	for _, x := range []struct {
		what string
		b    []byte
	}{
		{"a volume of 0", volumes(1, told(0, 1, 0))},
		{"a volume of 0 ahead", volumes(2, told(0, 1, 0), told(1, 1, 0))},
		{"the same number twice", volumes(2, told(3, 1, 0), told(3, 1, 0))},
		{"numbers that fall", volumes(2, told(4, 1, 0), told(3, 1, 0))},
		{"numbers that rise and fall", volumes(3, told(2, 1, 0), told(4, 1, 0), told(3, 1, 0))},
		{"numbers that fall by their upper bits", volumes(2, told(1<<31, 1, 0), told(1, 1, 0))},
		{"a size above MaxSize", volumes(1, told(1, 257, 0))},
		{"a size far above it", volumes(1, told(1, mostVolume, 0))},
		{"a size above it, and what is mapped below it", volumes(1, told(1, 257, 1, 0))},
		{"a mapped block behind the end", volumes(1, told(1, 3, 1, 3))},
		{"of a volume of 0 blocks", volumes(1, told(1, 0, 1, 0))},
		{"of one of MaxSize", volumes(1, told(1, 256, 1, 256))},
		{"far behind it", volumes(1, told(1, 3, 1, mostVolume))},
		{"behind one that is not", volumes(1, told(1, 3, 2, 1, 3))},
		{"the same block twice", volumes(1, told(1, 3, 2, 1, 1))},
		{"the block 0 twice", volumes(1, told(1, 3, 2, 0, 0))},
		{"blocks that fall", volumes(1, told(1, 3, 2, 2, 1))},
		{"blocks that rise and fall", volumes(1, told(1, 9, 3, 2, 8, 5))},
		{"more mapped than there are blocks", volumes(1, told(1, 1, 2, 0, 1))},
		{"more mapped than come", volumes(1, told(1, 9, 3, 0, 1))},
		{"fewer mapped than come", volumes(1, told(1, 9, 1, 0, 1))},
		{"very many mapped", volumes(1, told(1, 9, mostVolume, 0, 1))},
		{"more volumes than come", volumes(2, told(1, 9, 0))},
		{"fewer volumes than come", volumes(1, told(1, 9, 0), told(2, 9, 0))},
		{"none, and one comes", volumes(0, told(1, 9, 0))},
		{"very many volumes", volumes(mostVolume, told(1, 9, 0))},
		{"very many volumes, and none", volumes(mostVolume)},
	} {
		bad(t, x.what, x.b)
	}
	for _, b := range [][]byte{
		volumes(0), volumes(1, told(1, 0, 0)), volumes(1, told(1, 256, 1, 255)), volumes(1, told(mostVolume, 256, 2, 0, 255)),
		volumes(2, told(1, 1, 1, 0), told(2, 2, 2, 0, 1)), volumes(3, told(1, 0, 0), told(1<<31, 3, 1, 2), told(mostVolume, 3, 3, 0, 1, 2)),
	} {
		if _, is := plainOf(b); !is {
			t.Errorf("%v: they are no device's", b)
		}
		taken(t, b)
	}
}

// Bytes that are a device's but for some of them, by chance.
func TestBytesByChance(t *testing.T) {
	r := rand.New(rand.NewSource(14))
	devices := few(t)
	for range 4000 {
		b := devices[r.Intn(len(devices))].d.Bytes()
		for range r.Intn(4) {
			at := r.Intn(len(b) + 1)
			if len(b) > 20 && r.Intn(2) == 0 {
				at = r.Intn(20)
			}
			switch {
			case at == len(b):
				b = append(b, byte(r.Intn(3)))
			case r.Intn(8) == 0:
				b = append(b[:at:at], b[at+1:]...)
			default:
				b[at] = byte(r.Intn(256) & r.Intn(256) & r.Intn(256))
			}
		}
		taken(t, b)
	}
}

// A copy goes on apart, both ways.
func TestCopy(t *testing.T) {
	changes := []api.Op{
		creating(1, 4), deleting(7), deleting(8), resizing(7, 3), resizing(7, 0), resizing(9, 4), snapping(7, 1), writing(7, 0, some(32, 200)), writing(7, 5, some(1, 200)),
		writing(8, 3, some(2, 200)), zeroing(7, 0, 80), zeroing(7, 41, 1), discarding(7, 0, 20), discarding(mostVolume, 255, 1), zeroing(mostVolume, 0, 1024),
	}
	for _, o := range changes {
		p, was := pool(t), pool(t)
		copied := p.d.Copy()
		shows(t, copied, was.l)
		p.fine(o)
		shows(t, copied, was.l)
		p.shows()
		// The other way.
		p = pool(t)
		own := p.d
		p.d = own.Copy()
		p.fine(o)
		p.shows()
		shows(t, own, was.l)
	}
	for _, p := range few(t) {
		if d := p.d.Copy(); !d.Same(p.d) || !bytes.Equal(d.Bytes(), p.d.Bytes()) {
			t.Error("a copy is another device")
		}
	}
}

// Pairs that are unlike in one volume, one size, one mapped block, one byte.
func TestSame(t *testing.T) {
	other := some(1, 40)
	other[63]++
	first := some(1, 40)
	first[0]++
	devices := []*pair{
		newPair(t),
		made(t, creating(1, 4)), made(t, creating(2, 4)), made(t, creating(1, 5)), made(t, creating(1, 0)), made(t, creating(1, 4), creating(2, 4)), made(t, creating(1, 4), creating(2, 0)),
		made(t, creating(1, 4), zeroing(1, 0, 1)), made(t, creating(1, 4), zeroing(1, 4, 1)), made(t, creating(1, 4), zeroing(1, 0, 5)), made(t, creating(1, 5), zeroing(1, 0, 1)),
		made(t, creating(1, 4), creating(2, 4), zeroing(1, 0, 1)), made(t, creating(1, 4), creating(2, 4), zeroing(2, 0, 1)),
		made(t, creating(1, 4), writing(1, 3, some(1, 40))), made(t, creating(1, 4), writing(1, 3, other)), made(t, creating(1, 4), writing(1, 3, first)), made(t, creating(1, 4), writing(1, 2, some(1, 40))), made(t, creating(1, 4), writing(1, 7, some(1, 40))),
		made(t, creating(2, 4), writing(2, 3, some(1, 40))), pool(t),
	}
	for i, p := range devices {
		for j, o := range devices {
			if p.d.Same(o.d) != (i == j) {
				t.Errorf("%d, %d: the same? %v", i, j, p.d.Same(o.d))
			}
			if bytes.Equal(p.d.Bytes(), o.d.Bytes()) != (i == j) {
				t.Errorf("%d, %d: %v and %v", i, j, p.d.Bytes(), o.d.Bytes())
			}
		}
	}
}

// The same devices, whatever came ahead.
func TestSameByOtherWays(t *testing.T) {
	want := made(t, creating(1, 4), writing(1, 4, some(4, 9)), creating(2, 9))
	for _, p := range []*pair{
		made(t, creating(2, 9), creating(1, 4), writing(1, 4, some(4, 9))),
		made(t, creating(2, 3), resizing(2, 9), creating(1, 200), writing(1, 0, some(32, 1)), resizing(1, 2), resizing(1, 4), discarding(1, 0, 1), writing(1, 4, some(4, 9)), flushing()),
		made(t, creating(3, 4), writing(3, 4, some(4, 9)), snapping(3, 1), deleting(3), creating(2, 9)),
		made(t, creating(1, 4), creating(2, 9), writing(1, 7, some(4, 9)[192:]), writing(1, 4, some(3, 9))),
		made(t, creating(1, 4), creating(2, 9), writing(1, 4, some(3, 9)), writing(1, 7, some(4, 9)[192:]), deleting(2), creating(2, 9)),
	} {
		if !p.d.Same(want.d) || !want.d.Same(p.d) || !bytes.Equal(p.d.Bytes(), want.d.Bytes()) {
			t.Errorf("%v is not as %v", p.d.Bytes(), want.d.Bytes())
		}
	}
}

// refusedByNone holds what Do and Part answer of no device.
func refusedByNone(t testing.TB, d *device.Device, o api.Op) {
	t.Helper()
	for _, a := range []api.Answer{d.Do(o), d.Part(o, 0), d.Part(o, -1), d.Part(o, most)} {
		if a.Code != api.ErrNil || a.Done != 0 || len(a.Data) != 0 {
			t.Errorf("%v, of no device: %v; want errno %d alone", tell(o), answered(a), api.ErrNil)
		}
	}
}

// What each call answers of a device that is not there, and of a zero one: they are alike.
func TestNone(t *testing.T) {
	var zero device.Device
	for _, d := range []*device.Device{nil, &zero} {
		for _, o := range append(named(1), creating(1, 1), flushing(), api.Op{}) {
			refusedByNone(t, d, o)
		}
		if e := d.Put(api.Spot{Volume: 1}, api.Block{}); e != api.ErrNil {
			t.Errorf("Put: errno %d", e)
		}
		if l, n, b := d.Volumes(), d.Mapped(1), d.Bytes(); len(l) != 0 || len(n) != 0 || len(b) != 0 {
			t.Errorf("Volumes %v, Mapped %v, Bytes %v", l, n, b)
		}
		if size, is := d.Size(1); size != 0 || is {
			t.Errorf("Size: %d, %v", size, is)
		}
		none(t, d, table{})
		if l := gone(d, most); len(l) != 0 {
			t.Errorf("All: %v", l)
		}
		if d.Copy() != nil {
			t.Error("Copy: not nil")
		}
		if !d.Same(nil) || !d.Same(&device.Device{}) || d.Same(device.New()) || device.New().Same(d) || d.Same(pool(t).d) || pool(t).d.Same(d) {
			t.Error("Same: none is as none alone")
		}
	}
	if !(&zero).Same(nil) || zero.Copy() != nil {
		t.Error("a zero one is changed")
	}
}

// What was answered ahead stays as it was, whatever is called behind it.
func TestEarlierAnswers(t *testing.T) {
	type answers struct {
		volumes []uint64
		mapped  []int
		bytes   []byte
		read    api.Answer
		block   api.Block
		all     []spot
		copied  *device.Device
	}
	look := func(p *pair) answers {
		b, _ := p.d.Block(7, 1)
		return answers{p.d.Volumes(), p.d.Mapped(7), p.d.Bytes(), p.d.Do(reading(7, 0, 12)), b, gone(p.d, most), p.d.Copy()}
	}
	p := pool(t)
	r := rand.New(rand.NewSource(3))
	var got, want []answers
	for range 40 {
		a := look(p)
		got = append(got, a)
		a.volumes, a.mapped, a.bytes, a.all = slices.Clone(a.volumes), slices.Clone(a.mapped), bytes.Clone(a.bytes), slices.Clone(a.all)
		a.read.Data = bytes.Clone(a.read.Data)
		want = append(want, a)
		p.do([]api.Op{writing(7, r.Intn(8), some(4, byte(r.Intn(99)))), zeroing(7, r.Intn(30), 9), discarding(7, r.Intn(15), 4), snapping(7, uint64(10+r.Intn(20))), resizing(7, 12+r.Intn(9))}[r.Intn(5)])
	}
	for i, a := range got {
		w := want[i]
		same := slices.Equal(a.volumes, w.volumes) && slices.Equal(a.mapped, w.mapped) && bytes.Equal(a.bytes, w.bytes) && bytes.Equal(a.read.Data, w.read.Data) && a.block == w.block && slices.Equal(a.all, w.all)
		if !same || !bytes.Equal(a.copied.Bytes(), w.bytes) {
			t.Errorf("what was answered ahead of step %d is another now", i)
		}
	}
}

// Numbers that are none's: nothing is made of them, and nothing hangs.
func TestWildNumbers(t *testing.T) {
	p := pool(t)
	for _, kind := range []api.OpKind{math.MinInt, -1, 0, 1, 2, 3, 4, 5, 6, 7, 8, 9, 10, math.MaxInt} {
		for _, n := range []int{math.MinInt, math.MinInt + 1, -1 << 32, math.MaxInt - 1, most, 1 << 32, 1 << 62} {
			for _, o := range []api.Op{
				{Kind: kind, Volume: uint64(n)}, {Kind: kind, Volume: 7, To: uint64(n)}, {Kind: kind, Volume: 7, Size: n}, {Kind: kind, Volume: 7, At: n, Count: n}, {Kind: kind, Volume: 7, At: n, Count: 1}, {Kind: kind, Volume: 7, At: 1, Count: n},
				{Kind: kind, Volume: 7, At: n, Data: some(1, 1)}, {Kind: kind, Volume: 7, At: n, Count: n, Size: n, To: uint64(n), Data: some(1, 1)},
			} {
				p.do(o)
				p.part(o, n)
			}
		}
	}
	p.shows()
}
