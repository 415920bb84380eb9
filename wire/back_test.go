package wire_test

import (
	"bytes"
	"math/rand"
	"reflect"
	"testing"

	"voile/api"
	"voile/wire"
)

// P1.4

// randomValue is a value that the letter has room for.
func randomValue(r *rand.Rand, letter byte) any {
	switch letter {
	case '?':
		return r.Intn(2) == 1
	case '*':
		b := make([]byte, r.Intn(20))
		r.Read(b)
		return b
	case '#':
		var b api.Block
		r.Read(b[:])
		return b
	}
	// Numbers of every length, the greatest that has room among them.
	width := int(letter - '0')
	return (uint64(1)<<(8*width) - 1) >> r.Intn(8*width)
}

func randomShape(r *rand.Rand) string {
	shape := make([]byte, r.Intn(8))
	for i := range shape {
		shape[i] = letters[r.Intn(len(letters))]
	}
	return string(shape)
}

func TestWhatWasPackedIsUnpacked(t *testing.T) {
	r := rand.New(rand.NewSource(1))
	for range 2000 {
		shape := randomShape(r)
		values := make([]any, 0, len(shape))
		for i := range len(shape) {
			values = append(values, randomValue(r, shape[i]))
		}
		b, e := wire.Pack(shape, values...)
		if e != api.OK || len(b) < wire.Least(shape) {
			t.Fatalf("Pack(%q, %v): %d bytes, %v", shape, values, len(b), e)
		}
		behind := make([]byte, r.Intn(6))
		r.Read(behind)
		l, n, e := wire.Unpack(shape, append(bytes.Clone(b), behind...))
		if e != api.OK || n != len(b) || !reflect.DeepEqual(l, values) {
			t.Fatalf("Unpack(%q) of %v: %v, %d, %v", shape, values, l, n, e)
		}
	}
}

// checkUnpacked holds what b is unpacked as against b.
func checkUnpacked(t *testing.T, shape string, b []byte) {
	t.Helper()
	kept := bytes.Clone(b)
	l, n, e := wire.Unpack(shape, b)
	if !bytes.Equal(b, kept) {
		t.Fatalf("Unpack(%q) changed %x to %x", shape, kept, b)
	}
	if wire.May(shape) == (e == api.ErrArg) {
		t.Fatalf("Unpack(%q): %v", shape, e)
	}
	if e != api.OK {
		if e != api.ErrArg && e != api.ErrBytes || len(l) != 0 || n != 0 {
			t.Fatalf("Unpack(%q, %x): %v, %d, %v", shape, b, l, n, e)
		}
		return
	}
	back, e := wire.Pack(shape, l...)
	if e != api.OK || n > len(b) || !bytes.Equal(back, b[:n]) {
		t.Fatalf("Pack(%q, %v): %x, %v; want %x", shape, l, back, e, b[:n])
	}
}

func TestWhatWasUnpackedIsPacked(t *testing.T) {
	r := rand.New(rand.NewSource(2))
	for range 5000 {
		b := make([]byte, r.Intn(600))
		for i := range b {
			b[i] = byte(r.Intn(3)) // small, so that many are a truth's or a count's
		}
		checkUnpacked(t, randomShape(r), b)
	}
}

// FuzzWire: P0.6 too: no call panics.
func FuzzWire(f *testing.F) {
	f.Add("4?*", []byte("\x02\x01\x00\x00\x01\x01\x00\x00\x00\x07"), uint64(1))
	f.Add(letters, []byte("x"), uint64(0))
	f.Add("*", []byte("\xff\xff\xff\xff"), uint64(1<<64-1))
	f.Add("\xff1é", []byte(nil), uint64(9))
	f.Fuzz(func(t *testing.T, text string, b []byte, most uint64) {
		checkUnpacked(t, text, b)
		wire.Least(text)
		if back, is := wire.Unhex(wire.Hex(b)); !is || !bytes.Equal(back, b) {
			t.Fatalf("Hex of %x: back %x", b, back)
		}
		if back, is := wire.Unhex(text); is && wire.Hex(back) != text {
			t.Fatalf("Unhex(%q): %x", text, back)
		}
		if n, is := wire.Decimal(text, most); n > most || !is && n != 0 {
			t.Fatalf("Decimal(%q, %d): %d %v", text, most, n, is)
		}
	})
}
