package command_test

import (
	"bytes"
	"math"
	"testing"

	"voile/api"
	"voile/command"
)

// P13.1

func TestOrdinary(t *testing.T) {
	for i, o := range ordinary() {
		if o.Kind != api.OpKind(i+1) || !command.May(o) {
			t.Errorf("May(%+v): false", o)
		}
		told(t, o)
	}
}

// The chapter's bytes, byte by byte.
func TestBytes(t *testing.T) {
	one := sectors(1, 5)
	for _, x := range []struct {
		o    api.Op
		want []byte
	}{
		{api.Op{Kind: api.OpFlush}, []byte{8}},
		{api.Op{Kind: api.OpDelete, Volume: 0x01020304}, []byte{2, 4, 3, 2, 1}},
		{api.Op{Kind: api.OpCreate, Volume: 7, Size: 256}, []byte{1, 7, 0, 0, 0, 0, 1, 0, 0}},
		{api.Op{Kind: api.OpResize, Volume: mostVolume, Size: 3}, []byte{3, 255, 255, 255, 255, 3, 0, 0, 0}},
		{api.Op{Kind: api.OpSnap, Volume: 258, To: 0xA0B0C0D0}, []byte{4, 2, 1, 0, 0, 0xD0, 0xC0, 0xB0, 0xA0}},
		{api.Op{Kind: api.OpZero, Volume: 1, At: 0x10203, Count: 258}, []byte{6, 1, 0, 0, 0, 3, 2, 1, 0, 2, 1, 0, 0}},
		{api.Op{Kind: api.OpDiscard, Volume: 2, At: 1 << 20, Count: 1024}, []byte{7, 2, 0, 0, 0, 0, 0, 16, 0, 0, 4, 0, 0}},
		{api.Op{Kind: api.OpRead, Volume: 3, At: 0, Count: 1}, []byte{9, 3, 0, 0, 0, 0, 0, 0, 0, 1, 0, 0, 0}},
		{api.Op{Kind: api.OpWrite, Volume: 7, At: 300, Data: one}, append([]byte{5, 7, 0, 0, 0, 44, 1, 0, 0, 64, 0, 0, 0}, one...)},
	} {
		b, e := command.Bytes(x.o)
		if e != api.OK || !bytes.Equal(b, x.want) {
			t.Errorf("Bytes(%+v): %v, errno %d; want %v", x.o, b, e, x.want)
		}
		o, e := command.Of(x.want)
		if e != api.OK || !alike(o, x.o) {
			t.Errorf("Of(%v): %+v, errno %d; want %+v", x.want, o, e, x.o)
		}
	}
}

func TestHowManyBytes(t *testing.T) {
	for _, x := range []struct {
		o    api.Op
		want int
	}{{api.Op{Kind: api.OpFlush}, 1}, {api.Op{Kind: api.OpDelete, Volume: 1}, 5}, {api.Op{Kind: api.OpWrite, Volume: 1, Data: sectors(1, 0)}, 77}, {api.Op{Kind: api.OpWrite, Volume: 1, Data: sectors(32, 0)}, 13 + 2048}} {
		if b, e := command.Bytes(x.o); len(b) != x.want || e != api.OK {
			t.Errorf("%+v: %d bytes, errno %d; want %d", x.o, len(b), e, x.want)
		}
	}
}

// names: does the kind name the field?
func names(f field, kind api.OpKind) bool {
	for _, k := range f.kinds {
		if k == kind {
			return true
		}
	}
	return false
}

// each calls f with each ordinary operation in which one field, that it names, is changed to each of the numbers that it may, or may not, be.
func each(f func(o api.Op, name string, may bool)) {
	for _, x := range fields() {
		for _, o := range ordinary() {
			if !names(x, o.Kind) {
				continue
			}
			for _, n := range x.may {
				changed := o
				x.set(&changed, n)
				f(changed, x.name, changed.To != changed.Volume)
			}
			for _, n := range x.wrong {
				changed := o
				x.set(&changed, n)
				f(changed, x.name, false)
			}
		}
	}
}

// Each number that a kind names, at its edges, and beyond them.
func TestNumbers(t *testing.T) {
	each(func(o api.Op, name string, may bool) {
		if command.May(o) != may {
			t.Errorf("%s of %+v: May: %v; want %v", name, o, !may, may)
		}
		told(t, o)
	})
}

// What a kind does not name, but is set.
func TestNotNamed(t *testing.T) {
	for _, o := range ordinary() {
		for _, x := range fields() {
			if names(x, o.Kind) {
				continue
			}
			for _, n := range append(x.may, x.wrong...) {
				changed := o
				x.set(&changed, n)
				if command.May(changed) != (n == 0) {
					t.Errorf("%s of %+v: May: %v", x.name, changed, n != 0)
				}
				told(t, changed)
			}
		}
		if o.Kind == api.OpWrite {
			continue
		}
		for _, n := range []int{1, 63, 64, 128, 2048, 2112, 100000} {
			o.Data = make([]byte, n)
			if command.May(o) {
				t.Errorf("%d bytes of data of the kind %d may be", n, o.Kind)
			}
			told(t, o)
		}
		for _, none := range [][]byte{{}, make([]byte, 0, 64), make([]byte, 64)[:0]} {
			o.Data = none
			if !command.May(o) {
				t.Errorf("no data of the kind %d may not be", o.Kind)
			}
			told(t, o)
		}
	}
}

func TestNoKind(t *testing.T) {
	for _, kind := range []api.OpKind{0, -1, -2, -8, -256 + 1, 10, 11, 255, 256, 257, 256 + 8, 1<<32 + 8, math.MinInt, math.MinInt + 8, math.MaxInt, math.MaxInt - 1} {
		for _, o := range append(ordinary(), api.Op{}) {
			o.Kind = kind
			if command.May(o) {
				t.Errorf("May(%+v): true", o)
			}
			told(t, o)
		}
	}
}

func TestToIsVolume(t *testing.T) {
	for _, n := range []uint64{1, 2, 7, 1 << 31, mostVolume} {
		for _, to := range []uint64{n - 1, n, n + 1} {
			o := api.Op{Kind: api.OpSnap, Volume: n, To: to}
			if may := to != n && to >= 1 && to <= mostVolume; command.May(o) != may {
				t.Errorf("May(%+v): %v; want %v", o, !may, may)
			}
			told(t, o)
		}
	}
}

func TestData(t *testing.T) {
	for n := range 34*api.SectorSize + 2 {
		o := api.Op{Kind: api.OpWrite, Volume: 7, At: 5, Data: some(n, byte(n))}
		if may := n%64 == 0 && n >= 64 && n <= 32*64; command.May(o) != may {
			t.Errorf("May of %d bytes: %v; want %v", n, !may, may)
		}
		told(t, o)
	}
	for _, n := range []int{api.MaxCount * 64, 1<<16 + 64, api.MaxBlob, api.MaxBlob + 64} {
		told(t, api.Op{Kind: api.OpWrite, Volume: 7, At: 5, Data: make([]byte, n)})
	}
}

// All kinds, with each field about its edges, in all ways together.
func TestMayOfAll(t *testing.T) {
	datas := [][]byte{nil, make([]byte, 1), make([]byte, 64), make([]byte, 2048), make([]byte, 2112)}
	for kind := api.OpKind(-1); kind <= lastKind+1; kind++ {
		for _, volume := range []uint64{0, 1, mostVolume, mostVolume + 1, math.MaxUint64} {
			for _, to := range []uint64{0, 1, mostVolume, mostVolume + 1} {
				for _, size := range []int{-1, 0, 1, 256, 257} {
					for _, at := range []int{-1, 0, 1, 1 << 20, 1<<20 + 1} {
						for _, count := range []int{-1, 0, 1, 1024, 1025} {
							for _, data := range datas {
								o := api.Op{Kind: kind, Volume: volume, To: to, Size: size, At: at, Count: count, Data: data}
								if may := plainMay(o); command.May(o) != may {
									t.Fatalf("May(%+v): %v; want %v", o, !may, may)
								}
							}
						}
					}
				}
			}
		}
	}
}

// spoil calls f with the bytes, one byte less, some more, and each byte changed.
func spoil(b []byte, f func(b []byte)) {
	for n := range b {
		f(b[:n])
		f(b[n:])
	}
	for _, behind := range [][]byte{{0}, {1}, {255}, {0, 0, 0, 0}, b} {
		f(append(bytes.Clone(b), behind...))
	}
	// Where much is data, of a byte of these a few other ones are enough.
	step := byte(1)
	if len(b) > 200 {
		step = 63
	}
	changed := bytes.Clone(b)
	for i := range changed {
		for range 255 / int(step) {
			changed[i] += step
			f(changed)
		}
		changed[i] = b[i]
	}
}

func TestOfSpoiled(t *testing.T) {
	l := append(ordinary(), api.Op{Kind: api.OpWrite, Volume: 1, Data: sectors(2, 9)}, api.Op{Kind: api.OpWrite, Volume: 1, Data: sectors(32, 9)})
	for _, o := range l {
		b := plainBytes(o)
		read(t, b)
		spoil(b, func(b []byte) { read(t, b) })
	}
}

func TestOfNone(t *testing.T) {
	read(t, nil)
	read(t, []byte{})
	for kind := range 256 {
		for n := range 100 {
			b := make([]byte, 1+n)
			b[0] = byte(kind)
			read(t, b)
			for i := range n {
				b[1+i] = 1
			}
			read(t, b)
		}
	}
	for _, b := range [][]byte{
		{1, 0, 0, 0, 0, 5, 0, 0, 0},              // no volume
		{1, 7, 0, 0, 0, 1, 1, 0, 0},              // a size of 257
		{1, 7, 0, 0, 0, 255, 255, 255, 255},      // a size below 0, if it were cut
		{4, 7, 0, 0, 0, 7, 0, 0, 0},              // to itself
		{4, 7, 0, 0, 0, 0, 0, 0, 0},              // to none
		{6, 7, 0, 0, 0, 1, 0, 16, 0, 1, 0, 0, 0}, // at 2^20 + 1
		{7, 7, 0, 0, 0, 0, 0, 0, 0, 0, 0, 0, 0},  // a count of 0
		{9, 7, 0, 0, 0, 0, 0, 0, 0, 1, 4, 0, 0},  // a count of 1025
		{5, 7, 0, 0, 0, 0, 0, 0, 0, 0, 0, 0, 0},  // no data
		{8, 0},                                   // more than a flush
		{8, 7, 0, 0, 0},                          // a flush of a volume
	} {
		if o, e := command.Of(b); e != api.ErrBytes || !alike(o, api.Op{}) {
			t.Errorf("Of(%v): %+v, errno %d; want errno %d alone", b, o, e, api.ErrBytes)
		}
		read(t, b)
	}
}

// Data as long as may be a blob's, and ones of which there is less or more than they say.
func TestOfData(t *testing.T) {
	ahead := []byte{5, 7, 0, 0, 0, 0, 0, 0, 0}
	for _, n := range []int{0, 1, 63, 64, 65, 2048, 2049, 2112, api.MaxBlob, api.MaxBlob + 1} {
		data := make([]byte, n)
		b := append(four(bytes.Clone(ahead), n), data...)
		o, e := command.Of(b)
		if ok := n%64 == 0 && n >= 64 && n <= 2048; ok != (e == api.OK) || !ok && (e != api.ErrBytes || !alike(o, api.Op{})) {
			t.Errorf("%d bytes of data: errno %d", n, e)
		}
	}
	for _, said := range []int{0, 63, 65, 128, 2048, 1 << 24, 1<<24 + 1, 1 << 31, 1<<32 - 1} {
		b := append(four(bytes.Clone(ahead), said), sectors(1, 1)...)
		if _, e := command.Of(b); e != api.ErrBytes {
			t.Errorf("64 bytes of data, of which %d are said: errno %d", said, e)
		}
	}
}

func TestChanges(t *testing.T) {
	for _, o := range ordinary() {
		want := o.Kind != api.OpFlush && o.Kind != api.OpRead
		if command.Changes(o) != want {
			t.Errorf("Changes(%+v): %v", o, !want)
		}
	}
	// Whatever else is set, or may not be.
	for _, o := range ordinary() {
		o.Volume, o.To, o.Size, o.At, o.Count, o.Data = 0, 5, -1, 1<<30, 1, nil
		if want := o.Kind != api.OpFlush && o.Kind != api.OpRead; command.Changes(o) != want {
			t.Errorf("Changes(%+v): %v", o, !want)
		}
	}
}

// unlike are operations that are unlike the one that is handed in, each in one field alone.
func unlike(o api.Op) []api.Op {
	var l []api.Op
	put := func(change func(*api.Op)) {
		x := own(o)
		change(&x)
		l = append(l, x)
	}
	for _, by := range []int{1, -1, 1 << 8, 1 << 16, 1 << 32, math.MinInt} {
		put(func(x *api.Op) { x.Kind += api.OpKind(by) })
		put(func(x *api.Op) { x.Volume += uint64(by) })
		put(func(x *api.Op) { x.To += uint64(by) })
		put(func(x *api.Op) { x.Size += by })
		put(func(x *api.Op) { x.At += by })
		put(func(x *api.Op) { x.Count += by })
	}
	for i := range o.Data {
		put(func(x *api.Op) { x.Data[i] ^= 1 << (i % 8) })
	}
	put(func(x *api.Op) { x.Data = append(x.Data, 0) })
	put(func(x *api.Op) { x.Data = append(x.Data, sectors(1, 0)...) })
	if len(o.Data) > 0 {
		put(func(x *api.Op) { x.Data = x.Data[1:] })
		put(func(x *api.Op) { x.Data = x.Data[:len(x.Data)-1] })
		put(func(x *api.Op) { x.Data = nil })
	}
	return l
}

func TestSame(t *testing.T) {
	l := append(ordinary(), api.Op{}, api.Op{Kind: -5, Volume: 1, To: 2, Size: 3, At: 4, Count: 5, Data: some(70, 1)})
	for i, o := range l {
		if !command.Same(o, o) || !command.Same(o, own(o)) || !command.Same(own(o), o) {
			t.Errorf("Same(%+v), of itself: false", o)
		}
		for j, other := range l {
			if command.Same(o, other) != (i == j) {
				t.Errorf("Same(%+v, %+v): %v", o, other, i != j)
			}
		}
		for _, other := range unlike(o) {
			if command.Same(o, other) || command.Same(other, o) {
				t.Errorf("Same(%+v, %+v): true", o, other)
			}
		}
	}
	// Nil and empty are one.
	a, b := api.Op{Kind: api.OpFlush}, api.Op{Kind: api.OpFlush, Data: make([]byte, 0, 9)}
	if !command.Same(a, b) || !command.Same(b, a) {
		t.Error("no data and empty data are not the same")
	}
}

func TestCopy(t *testing.T) {
	l := append(ordinary(), api.Op{}, api.Op{Kind: -5, Volume: 1, To: 2, Size: 3, At: 4, Count: 5, Data: some(70, 1)})
	for _, o := range append(l, edges()...) {
		kept := own(o)
		first := command.Copy(o)
		second := command.Copy(o)
		if !alike(o, kept) || !alike(first, kept) || !alike(second, kept) {
			t.Errorf("Copy(%+v): %+v, then %+v", kept, first, second)
		}
		overwrite(first.Data)
		if !alike(o, kept) || !alike(second, kept) {
			t.Errorf("Copy(%+v) shares its memory", kept)
		}
		overwrite(o.Data)
		if !alike(second, kept) {
			t.Errorf("Copy(%+v) shares the operation's memory", kept)
		}
	}
	// What is behind empty data is not shared, either.
	room := sectors(1, 3)
	o := command.Copy(api.Op{Kind: api.OpWrite, Data: room[:0]})
	overwrite(o.Data)
	o = command.Copy(api.Op{Kind: api.OpWrite, Data: room[:5]})
	overwrite(o.Data)
	if len(o.Data) != 5 || !bytes.Equal(room, sectors(1, 3)) {
		t.Error("Copy shares what is behind the data")
	}
}

// edges are the operations that each goes over.
func edges() []api.Op {
	var l []api.Op
	each(func(o api.Op, _ string, _ bool) { l = append(l, own(o)) })
	return l
}
