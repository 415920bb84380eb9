package command_test

import (
	"bytes"
	"encoding/binary"
	"math"
	"testing"

	"voile/api"
	"voile/command"
)

// some are n bytes of which those that stand beside one another are unlike.
func some(n int, first byte) []byte {
	b := make([]byte, n)
	for i := range b {
		b[i] = first + byte(i)*7 + byte(i/api.SectorSize)
	}
	return b
}

// sectors are data of so many.
func sectors(n int, first byte) []byte { return some(n*api.SectorSize, first) }

const (
	mostVolume = 1<<32 - 1
	lastKind   = api.OpRead
)

// ordinary is an operation of each kind.
func ordinary() []api.Op {
	return []api.Op{
		{Kind: api.OpCreate, Volume: 7, Size: 20},
		{Kind: api.OpDelete, Volume: 0x01020304},
		{Kind: api.OpResize, Volume: 8, Size: 3},
		{Kind: api.OpSnap, Volume: 7, To: 9},
		{Kind: api.OpWrite, Volume: 7, At: 300, Data: sectors(1, 5)},
		{Kind: api.OpZero, Volume: 7, At: 0x10203, Count: 258},
		{Kind: api.OpDiscard, Volume: 7, At: 4, Count: 2},
		{Kind: api.OpFlush},
		{Kind: api.OpRead, Volume: 7, At: 3, Count: 6},
	}
}

// field is a field of an operation that is a number: who names it; what it may be at the least and the greatest, and what it may not be.
type field struct {
	name       string
	kinds      []api.OpKind
	set        func(o *api.Op, n uint64)
	may, wrong []uint64
}

// below is a number below 0, in the bits of one that is not.
func below(n int64) uint64 { return uint64(n) }

func fields() []field {
	// What would be one that may be, if the upper bits were cut.
	const high = 1 << 32
	least, greatest := below(math.MinInt64), uint64(math.MaxInt64)
	volumes := []uint64{1, 2, 255, 256, 1 << 31, mostVolume - 1, mostVolume}
	noVolumes := []uint64{0, high, high + 1, high + 7, 2*high + 1, 1 << 63, 1<<63 + 1, math.MaxUint64 - 1, math.MaxUint64}
	all := []api.OpKind{1, 2, 3, 4, 5, 6, 7, 9}
	return []field{
		{"Volume", all, func(o *api.Op, n uint64) { o.Volume = n }, volumes, noVolumes},
		{"To", []api.OpKind{4}, func(o *api.Op, n uint64) { o.To = n }, volumes, noVolumes},
		{"Size", []api.OpKind{1, 3}, func(o *api.Op, n uint64) { o.Size = int(n) }, []uint64{0, 1, 20, 255, 256}, []uint64{below(-1), below(-256), 257, 1000, high, high + 1, below(-high), least, greatest}},
		{"At", []api.OpKind{5, 6, 7, 9}, func(o *api.Op, n uint64) { o.At = int(n) }, []uint64{0, 1, 1<<20 - 1, 1 << 20}, []uint64{below(-1), below(-1 << 20), 1<<20 + 1, 1 << 21, high, high + 1, below(-high), least, greatest}},
		{"Count", []api.OpKind{6, 7, 9}, func(o *api.Op, n uint64) { o.Count = int(n) }, []uint64{1, 2, 1023, 1024}, []uint64{below(-1), 0, below(-1024), 1025, 2048, high, high + 1, below(-high), least, greatest}},
	}
}

// plainMay is whether it may be an operation, by the chapter's table.
func plainMay(o api.Op) bool {
	volume := o.Volume >= 1 && o.Volume <= mostVolume
	size := o.Size >= 0 && o.Size <= 256
	at := o.At >= 0 && o.At <= 1<<20
	count := o.Count >= 1 && o.Count <= 1024
	noTo, noSize, noAt, noCount, noData := o.To == 0, o.Size == 0, o.At == 0, o.Count == 0, len(o.Data) == 0
	switch o.Kind {
	case 1, 3:
		return volume && noTo && size && noAt && noCount && noData
	case 2:
		return volume && noTo && noSize && noAt && noCount && noData
	case 4:
		return volume && o.To >= 1 && o.To <= mostVolume && o.To != o.Volume && noSize && noAt && noCount && noData
	case 5:
		return volume && noTo && noSize && at && noCount && len(o.Data)%64 == 0 && len(o.Data) >= 64 && len(o.Data) <= 32*64
	case 6, 7, 9:
		return volume && noTo && noSize && at && count && noData
	case 8:
		return o.Volume == 0 && noTo && noSize && noAt && noCount && noData
	}
	return false
}

// four puts a number's 4 bytes behind those of b, the lowest first.
func four[N uint64 | int](b []byte, n N) []byte {
	return binary.LittleEndian.AppendUint32(b, uint32(n))
}

func blob(b, data []byte) []byte { return append(four(b, len(data)), data...) }

// plainBytes are an operation's bytes, of one that may be.
func plainBytes(o api.Op) []byte {
	b := []byte{byte(o.Kind)}
	if o.Kind == 8 {
		return b
	}
	b = four(b, o.Volume)
	switch o.Kind {
	case 1, 3:
		b = four(b, o.Size)
	case 4:
		b = four(b, o.To)
	case 5:
		b = blob(four(b, o.At), o.Data)
	case 6, 7, 9:
		b = four(four(b, o.At), o.Count)
	}
	return b
}

// plainOf is the operation that has just these bytes, if there is one.
func plainOf(b []byte) (api.Op, bool) {
	var o api.Op
	number := func(at int) uint64 {
		if at+4 > len(b) {
			return 0
		}
		return uint64(binary.LittleEndian.Uint32(b[at:]))
	}
	if len(b) > 0 {
		o.Kind = api.OpKind(b[0])
		o.Volume = number(1)
	}
	switch o.Kind {
	case 1, 3:
		o.Size = int(number(5))
	case 4:
		o.To = number(5)
	case 5:
		o.At, o.Data = int(number(5)), b[min(13, len(b)):]
	case 6, 7, 9:
		o.At, o.Count = int(number(5)), int(number(9))
	}
	if !plainMay(o) || !bytes.Equal(plainBytes(o), b) {
		return api.Op{}, false
	}
	return o, true
}

// alike: have both the same in all fields?
func alike(a, b api.Op) bool {
	same := bytes.Equal(a.Data, b.Data)
	a.Data, b.Data = nil, nil
	return same && a.Kind == b.Kind && a.Volume == b.Volume && a.To == b.To && a.Size == b.Size && a.At == b.At && a.Count == b.Count
}

// own is a copy that the program has not made.
func own(o api.Op) api.Op {
	o.Data = append([]byte(nil), o.Data...)
	return o
}

// overwrite changes bytes, up to their capacity.
func overwrite(b []byte) {
	b = b[:cap(b)]
	for i := range b {
		b[i] ^= 0xFF
	}
}

// told holds what is told of an operation, whether it may be or not, against the chapter's words.
func told(t testing.TB, o api.Op) {
	t.Helper()
	kept := own(o)
	may := plainMay(o)
	if command.May(o) != may {
		t.Errorf("May(%+v): %v; want %v", o, !may, may)
	}
	b, e := command.Bytes(o)
	if !alike(o, kept) {
		t.Fatalf("%+v: what is handed in is changed: %+v", kept, o)
	}
	if !may {
		if len(b) != 0 || e != api.ErrArg {
			t.Errorf("Bytes(%+v): %v, errno %d; want errno %d alone", o, b, e, api.ErrArg)
		}
		return
	}
	if e != api.OK || !bytes.Equal(b, plainBytes(o)) {
		t.Errorf("Bytes(%+v): %v, errno %d; want %v", o, b, e, plainBytes(o))
		return
	}
	read(t, b)
	overwrite(b)
	if !alike(o, kept) {
		t.Fatalf("Bytes(%+v) share the operation's memory", kept)
	}
}

// read holds what is told of bytes, whether they are an operation's or not.
func read(t testing.TB, b []byte) {
	t.Helper()
	handed := bytes.Clone(b)
	want, is := plainOf(b)
	want = own(want)
	o, e := command.Of(handed)
	if !bytes.Equal(handed, b) {
		t.Fatalf("Of(%v): what is handed in is changed: %v", b, handed)
	}
	if !is {
		if e != api.ErrBytes || !alike(o, api.Op{}) {
			t.Errorf("Of(%v): %+v, errno %d; want errno %d alone", b, o, e, api.ErrBytes)
		}
		return
	}
	if e != api.OK || !alike(o, want) || !command.Same(o, want) {
		t.Errorf("Of(%v): %+v, errno %d; want %+v", b, o, e, want)
		return
	}
	overwrite(handed)
	if !alike(o, want) {
		t.Errorf("Of(%v) shares the bytes' memory", b)
	}
	if back, e := command.Bytes(o); e != api.OK || !bytes.Equal(back, b) {
		t.Errorf("%v are read, and packed as %v, errno %d", b, back, e)
	}
}
