package device_test

import (
	"bytes"
	"encoding/binary"
	"maps"
	"math"
	"slices"
	"testing"

	"voile/api"
	"voile/device"
)

const (
	mostVolume = math.MaxUint32
	most       = math.MaxInt
)

// plain is a volume, sector by sector: those of no mapped block are noughts.
type plain struct {
	size    int
	mapped  [256]bool
	sectors [256 * 4]api.Sector
}

// table is a device, plainly: volumes by their numbers.
type table map[uint64]*plain

func (l table) volumes() []uint64 { return slices.Sorted(maps.Keys(l)) }

func (l table) copied() table {
	out := table{}
	for v, x := range l {
		own := *x
		out[v] = &own
	}
	return out
}

// size is a volume's size; 0, too, where there is none.
func (l table) size(v uint64) int {
	if x, is := l[v]; is {
		return x.size
	}
	return 0
}

func (x *plain) blocks() []int {
	var out []int
	for b, is := range x.mapped {
		if is {
			out = append(out, b)
		}
	}
	return out
}

func (x *plain) block(b int) api.Block {
	var out api.Block
	for i := range 4 {
		copy(out[i*64:], x.sectors[b*4+i][:])
	}
	return out
}

// plainMay is whether it may be an operation, by the table of chapter 13.
func plainMay(o api.Op) bool {
	volume := o.Volume >= 1 && o.Volume <= mostVolume
	size := o.Size >= 0 && o.Size <= 256
	at := o.At >= 0 && o.At <= 1<<20
	count := o.Count >= 1 && o.Count <= 1024
	noTo, noSize, noAt, noCount, noData := o.To == 0, o.Size == 0, o.At == 0, o.Count == 0, len(o.Data) == 0
	switch o.Kind {
	case 1, 3:
		return volume && noTo && size && noAt && noCount && noData
	case 2:
		return volume && noTo && noSize && noAt && noCount && noData
	case 4:
		return volume && o.To >= 1 && o.To <= mostVolume && o.To != o.Volume && noSize && noAt && noCount && noData
	case 5:
		return volume && noTo && noSize && at && noCount && len(o.Data)%64 == 0 && len(o.Data) >= 64 && len(o.Data) <= 32*64
	case 6, 7, 9:
		return volume && noTo && noSize && at && count && noData
	case 8:
		return o.Volume == 0 && noTo && noSize && noAt && noCount && noData
	}
	return false
}

// wrong is why a device refuses an operation.
func (l table) wrong(o api.Op) api.Errno {
	if !plainMay(o) {
		return api.ErrArg
	}
	x, is := l[o.Volume]
	_, there := l[o.To]
	switch {
	case o.Kind != 1 && o.Kind != 8 && !is:
		return api.ErrNone
	case o.Kind == 1 && is, o.Kind == 4 && there:
		return api.ErrExists
	case o.Kind == 5 && o.At+len(o.Data)/64 > 4*x.size:
		return api.ErrRange
	case (o.Kind == 6 || o.Kind == 9) && o.At+o.Count > 4*x.size:
		return api.ErrRange
	case o.Kind == 7 && o.At+o.Count > x.size:
		return api.ErrRange
	}
	return api.OK
}

// part does an operation, of OpWrite and OpZero so many blocks at most.
func (l table) part(o api.Op, blocks int) api.Answer {
	if e := l.wrong(o); e != api.OK {
		return api.Answer{Code: e}
	}
	x := l[o.Volume]
	switch o.Kind {
	case 1:
		l[o.Volume] = &plain{size: o.Size}
	case 2:
		delete(l, o.Volume)
	case 3:
		x.unmap(o.Size, 256)
		x.size = o.Size
	case 4:
		own := *x
		l[o.To] = &own
	case 7:
		x.unmap(o.At, o.At+o.Count)
	case 9:
		var data []byte
		for i := range o.Count {
			data = append(data, x.sectors[o.At+i][:]...)
		}
		return api.Answer{Data: data}
	case 5, 6:
		return x.write(o, blocks)
	}
	return api.Answer{}
}

func (x *plain) unmap(from, to int) {
	for b := from; b < to; b++ {
		x.mapped[b] = false
		clear(x.sectors[b*4 : b*4+4])
	}
}

func (x *plain) write(o api.Op, blocks int) api.Answer {
	for i := range o.Count + len(o.Data)/64 {
		s := o.At + i
		if s/4-o.At/4 >= blocks {
			return api.Answer{Code: api.ErrFull, Done: max(blocks, 0)}
		}
		x.mapped[s/4] = true
		x.sectors[s] = api.Sector{}
		if o.Kind == 5 {
			x.sectors[s] = api.Sector(o.Data[i*64 : i*64+64])
		}
	}
	return api.Answer{}
}

// number puts a number's 4 bytes behind those of b, the lowest first.
func number[N uint64 | int](b []byte, n N) []byte {
	return binary.LittleEndian.AppendUint32(b, uint32(n))
}

// bytes are a device's bytes, by the chapter's words.
func (l table) bytes() []byte {
	out := number(nil, len(l))
	for _, v := range l.volumes() {
		x := l[v]
		out = number(number(number(out, v), x.size), len(x.blocks()))
		for _, b := range x.blocks() {
			own := x.block(b)
			out = append(number(out, b), own[:]...)
		}
	}
	return out
}

// plainOf is the table of the device whose bytes these are, if they are one's: told by looking for what is wrong.
func plainOf(b []byte) (table, bool) {
	at := 0
	next := func() uint64 {
		if at += 4; at > len(b) {
			return math.MaxUint64
		}
		return uint64(binary.LittleEndian.Uint32(b[at-4:]))
	}
	l := table{}
	many := next()
	for i, last := uint64(0), uint64(0); i < many; i++ {
		v, size, mapped := next(), next(), next()
		if at > len(b) || v <= last || size > 256 || mapped > 256 {
			return nil, false
		}
		x := &plain{size: int(size)}
		behind := uint64(0)
		for range mapped {
			n := next()
			if at+256 > len(b) || n < behind || n >= size {
				return nil, false
			}
			x.mapped[n] = true
			for s := range 4 {
				x.sectors[int(n)*4+s] = api.Sector(b[at+s*64 : at+s*64+64])
			}
			at += 256
			behind = n + 1
		}
		l[v], last = x, v
	}
	return l, at == len(b)
}

// spot is what All goes over at once.
type spot struct {
	s api.Spot
	b api.Block
}

func (l table) all() []spot {
	var out []spot
	for _, v := range l.volumes() {
		for _, b := range l[v].blocks() {
			out = append(out, spot{api.Spot{Volume: v, Block: b}, l[v].block(b)})
		}
	}
	return out
}

// spots are where the blocks stand that are gone over.
func spots(l []spot) []api.Spot {
	var out []api.Spot
	for _, x := range l {
		out = append(out, x.s)
	}
	return out
}

// gone is what All goes over, up to so many.
func gone(d *device.Device, many int) []spot {
	var l []spot
	for s, b := range d.All() {
		if l = append(l, spot{s, b}); len(l) == many {
			break
		}
	}
	return l
}

// shows holds all that a device tells of itself against a table.
func shows(t testing.TB, d *device.Device, l table) {
	t.Helper()
	if got := d.Volumes(); !slices.Equal(got, l.volumes()) {
		t.Fatalf("Volumes: %v; want %v", got, l.volumes())
	}
	for v, x := range l {
		if size, is := d.Size(v); size != x.size || !is {
			t.Errorf("Size(%d): %d, %v; want %d", v, size, is, x.size)
		}
		if got := d.Mapped(v); !slices.Equal(got, x.blocks()) {
			t.Errorf("Mapped(%d): %v; want %v", v, got, x.blocks())
		}
		for b := range 256 {
			if own, is := d.Block(v, b); own != x.block(b) || is != x.mapped[b] {
				t.Errorf("Block(%d, %d): mapped? %v, want %v; or other bytes", v, b, is, x.mapped[b])
			}
		}
	}
	if got := gone(d, most); !slices.Equal(got, l.all()) {
		t.Errorf("All: %v; want %v, or other bytes", spots(got), spots(l.all()))
	}
	if got := d.Bytes(); !bytes.Equal(got, l.bytes()) {
		t.Errorf("Bytes: %d of them; want %d, or others", len(got), len(l.bytes()))
	}
	none(t, d, l)
}

// none holds what a device tells of what it has not.
func none(t testing.TB, d *device.Device, l table) {
	t.Helper()
	for _, v := range []uint64{0, 1, 2, 3, 1000, mostVolume, mostVolume + 1, mostVolume + 2, math.MaxUint64} {
		_, there := l[v]
		if size, is := d.Size(v); !there && (size != 0 || is) {
			t.Errorf("Size(%d): %d, %v; there is none", v, size, is)
		}
		if got := d.Mapped(v); !there && len(got) != 0 {
			t.Errorf("Mapped(%d): %v; there is none", v, got)
		}
		for _, b := range []int{math.MinInt, -256, -1, 0, l.size(v), 255, 256, 1 << 20, 1 << 32, 1<<32 + 1, most} {
			if own, is := d.Block(v, b); (!there || b < 0 || b >= l.size(v)) && (own != api.Block{} || is) {
				t.Errorf("Block(%d, %d): %v, %v; there is none", v, b, is, own)
			}
		}
	}
}

// overwrite changes bytes, up to their capacity.
func overwrite(b []byte) {
	b = b[:cap(b)]
	for i := range b {
		b[i] ^= 0xFF
	}
}

// pair is a device, and a table that is done the same.
type pair struct {
	t testing.TB
	d *device.Device
	l table
}

func newPair(t testing.TB) *pair { return &pair{t, device.New(), table{}} }

// made is a pair by which operations were done, each without an error.
func made(t testing.TB, l ...api.Op) *pair {
	t.Helper()
	p := newPair(t)
	for _, o := range l {
		p.fine(o)
	}
	return p
}

// does holds an answer against the table's, and that neither what was handed in nor what was answered is the device's.
func (p *pair) does(o api.Op, blocks int, do func(o api.Op) api.Answer) api.Answer {
	p.t.Helper()
	was := p.d.Bytes()
	handed := o
	handed.Data = bytes.Clone(o.Data)
	a, want := do(handed), p.l.part(o, blocks)
	if a.Code != want.Code || a.Done != want.Done || !bytes.Equal(a.Data, want.Data) {
		p.t.Errorf("%v, %d blocks: %v; want %v, or other bytes", tell(o), blocks, answered(a), answered(want))
	}
	if !bytes.Equal(handed.Data, o.Data) {
		p.t.Errorf("%v: what is handed in is changed", tell(o))
	}
	now := p.d.Bytes()
	overwrite(handed.Data)
	overwrite(a.Data)
	if !bytes.Equal(p.d.Bytes(), now) {
		p.t.Errorf("%v: what is handed in, or answered, is the device's", tell(o))
	}
	if (want.Code != api.OK && want.Code != api.ErrFull || o.Kind == api.OpFlush || o.Kind == api.OpRead) && !bytes.Equal(now, was) {
		p.t.Errorf("%v: errno %d, and something is changed", tell(o), want.Code)
	}
	return want
}

func (p *pair) do(o api.Op) api.Answer {
	p.t.Helper()
	return p.does(o, most, p.d.Do)
}

func (p *pair) part(o api.Op, blocks int) api.Answer {
	p.t.Helper()
	return p.does(o, blocks, func(o api.Op) api.Answer { return p.d.Part(o, blocks) })
}

// fine does an operation that has no error.
func (p *pair) fine(o api.Op) {
	p.t.Helper()
	if a := p.do(o); a.Code != api.OK {
		p.t.Fatalf("%v: errno %d", tell(o), a.Code)
	}
}

// wrong does an operation that has an error, as it is done in part, too.
func (p *pair) wrong(o api.Op, want api.Errno) {
	p.t.Helper()
	if a := p.do(o); a.Code != want {
		p.t.Errorf("%v: errno %d; want %d", tell(o), a.Code, want)
	}
	for _, blocks := range []int{math.MinInt, -1, 0, 1, most} {
		if a := p.part(o, blocks); a.Code != want {
			p.t.Errorf("%v, %d blocks: errno %d; want %d", tell(o), blocks, a.Code, want)
		}
	}
}

func (p *pair) shows() {
	p.t.Helper()
	shows(p.t, p.d, p.l)
}

// reads holds what a volume's sectors read as.
func (p *pair) reads(v uint64, at int, want []byte) {
	p.t.Helper()
	a := p.d.Do(reading(v, at, len(want)/64))
	if a.Code != api.OK || a.Done != 0 || !bytes.Equal(a.Data, want) {
		p.t.Errorf("sectors of %d from %d on: %v; want %d bytes, or others", v, at, answered(a), len(want))
	}
}

// maps holds which blocks of a volume are mapped.
func (p *pair) maps(v uint64, want ...int) {
	p.t.Helper()
	if got := p.d.Mapped(v); !slices.Equal(got, want) {
		p.t.Errorf("Mapped(%d): %v; want %v", v, got, want)
	}
}

// some are sectors of unlike bytes, none of them noughts.
func some(sectors int, first byte) []byte {
	b := make([]byte, sectors*64)
	for i := range b {
		b[i] = byte(int(first)+i*7+i/64*31)%255 + 1
	}
	return b
}

// noughts are sectors of them.
func noughts(sectors int) []byte { return make([]byte, sectors*64) }

// tell and answered are short for an operation and an answer.
func tell(o api.Op) []any {
	return []any{o.Kind, o.Volume, o.To, o.Size, o.At, o.Count, len(o.Data)}
}

func answered(a api.Answer) []int { return []int{int(a.Code), a.Done, len(a.Data)} }

// row is bytes one behind the other.
func row(l ...[]byte) []byte { return bytes.Join(l, nil) }

func blockOf(first byte) api.Block { return api.Block(some(4, first)) }

func creating(v uint64, size int) api.Op {
	return api.Op{Kind: api.OpCreate, Volume: v, Size: size}
}

func deleting(v uint64) api.Op { return api.Op{Kind: api.OpDelete, Volume: v} }

func resizing(v uint64, size int) api.Op {
	return api.Op{Kind: api.OpResize, Volume: v, Size: size}
}

func snapping(v, to uint64) api.Op { return api.Op{Kind: api.OpSnap, Volume: v, To: to} }

func writing(v uint64, at int, data []byte) api.Op {
	return api.Op{Kind: api.OpWrite, Volume: v, At: at, Data: data}
}

func zeroing(v uint64, at, count int) api.Op {
	return api.Op{Kind: api.OpZero, Volume: v, At: at, Count: count}
}

func discarding(v uint64, at, count int) api.Op {
	return api.Op{Kind: api.OpDiscard, Volume: v, At: at, Count: count}
}

func flushing() api.Op { return api.Op{Kind: api.OpFlush} }

func reading(v uint64, at, count int) api.Op {
	return api.Op{Kind: api.OpRead, Volume: v, At: at, Count: count}
}
