package crc_test

import (
	"bytes"
	"hash/crc32"
	"math"
	"strings"
	"testing"

	"voile/crc"
)

// plain is the sum just as the chapter's words tell it, bit by bit.
func plain(b []byte) uint32 {
	r := uint32(1<<32 - 1)
	for _, x := range b {
		r = eight(r ^ uint32(x))
	}
	return ^r
}

func eight(r uint32) uint32 {
	for range 8 {
		low := r & 1
		r >>= 1
		if low == 1 {
			r ^= 0x82F63B78
		}
	}
	return r
}

// row is n bytes that look like chance, the same ones for the same seed.
func row(n int, seed uint32) []byte {
	b := make([]byte, n)
	for i := range b {
		seed = seed*1664525 + 1013904223
		b[i] = byte(seed >> 24)
	}
	return b
}

// rows are rows of many lengths, and of bytes that may be taken for special ones.
func rows() [][]byte {
	l := [][]byte{nil, {}, {0}, {1}, {255}, {0, 0, 0, 0}, []byte("123456789"), bytes.Repeat([]byte{0}, 300), bytes.Repeat([]byte{255}, 300)}
	for n := range 70 {
		l = append(l, row(n, uint32(n)))
	}
	return append(l, row(255, 1), row(256, 2), row(257, 3), row(5000, 4))
}

// P2.1

func TestSumOfKnownRows(t *testing.T) {
	up, down := make([]byte, 32), make([]byte, 32)
	for i := range up {
		up[i], down[31-i] = byte(i), byte(i)
	}
	for _, x := range []struct {
		bytes string
		sum   uint32
	}{
		{"123456789", 0xE3069283},
		{"", 0},
		{"a", 0xC1D04330},
		{strings.Repeat("\x00", 32), 0x8A9136AA},
		{strings.Repeat("\xff", 32), 0x62A8AB43},
		{string(up), 0x46DD794E},
		{string(down), 0x113FDB5C},
	} {
		if s := crc.Sum([]byte(x.bytes)); s != x.sum {
			t.Errorf("Sum(%q): %08X; want %08X", x.bytes, s, x.sum)
		}
	}
	if s := crc.Sum(nil); s != 0 {
		t.Errorf("Sum of no bytes: %08X", s)
	}
}

func TestSumIsAsTheWordsTellIt(t *testing.T) {
	castagnoli := crc32.MakeTable(crc32.Castagnoli)
	for _, b := range rows() {
		if s := crc.Sum(b); s != plain(b) || s != crc32.Checksum(b, castagnoli) {
			t.Errorf("Sum of %d bytes: %08X; want %08X", len(b), s, plain(b))
		}
	}
	for i := range 256 {
		if b := []byte{byte(i)}; crc.Sum(b) != plain(b) {
			t.Errorf("Sum of the byte %d: %08X; want %08X", i, crc.Sum(b), plain(b))
		}
	}
}

func TestAddOfNothing(t *testing.T) {
	for _, sum := range []uint32{0, 1, 0xE3069283, 1<<32 - 1} {
		if s := crc.Add(sum, nil); s != sum {
			t.Errorf("Add(%08X) of no bytes: %08X", sum, s)
		}
		if s := crc.Add(sum, []byte{}); s != sum {
			t.Errorf("Add(%08X) of an empty row: %08X", sum, s)
		}
	}
	for _, b := range rows() {
		if s := crc.Add(0, b); s != plain(b) {
			t.Errorf("Add(0) of %d bytes: %08X; want their sum %08X", len(b), s, plain(b))
		}
	}
}

// Each number is some row's sum: Add takes any of them.
func TestAddToAnySum(t *testing.T) {
	castagnoli := crc32.MakeTable(crc32.Castagnoli)
	for _, sum := range []uint32{1, 0xff, 0x100, 0x80000000, 0xE3069283, 0xfffffffe, 1<<32 - 1} {
		for _, b := range rows() {
			if s := crc.Add(sum, b); s != crc32.Update(sum, castagnoli, b) {
				t.Errorf("Add(%08X) of %d bytes: %08X; want %08X", sum, len(b), s, crc32.Update(sum, castagnoli, b))
			}
		}
	}
}

func TestTable(t *testing.T) {
	for i := range 256 {
		if n := crc.Table(i); n != eight(uint32(i)) {
			t.Errorf("Table(%d): %08X; want %08X", i, n, eight(uint32(i)))
		}
	}
	for i, want := range map[int]uint32{0: 0, 1: 0xF26B8303, 128: 0x82F63B78, 255: 0xAD7D5351} {
		if n := crc.Table(i); n != want {
			t.Errorf("Table(%d): %08X; want %08X", i, n, want)
		}
	}
}

func TestTableOfAnotherNumber(t *testing.T) {
	for _, i := range []int{-1, -2, -128, -255, -256, 256, 257, 511, 512, 1 << 16, math.MaxInt32, math.MinInt32, math.MaxInt, math.MinInt} {
		if n := crc.Table(i); n != 0 {
			t.Errorf("Table(%d): %08X; want 0", i, n)
		}
	}
}

// P2.2

func TestSealed(t *testing.T) {
	for bytes, want := range map[string]string{
		"123456789": "123456789\x83\x92\x06\xE3",
		"a":         "a\x30\x43\xD0\xC1",
		"":          "\x00\x00\x00\x00",
	} {
		if b := crc.Sealed([]byte(bytes)); string(b) != want {
			t.Errorf("Sealed(%q): %q; want %q", bytes, b, want)
		}
	}
	if b := crc.Sealed(nil); string(b) != "\x00\x00\x00\x00" {
		t.Errorf("Sealed of no bytes: %q", b)
	}
	for _, b := range rows() {
		s := plain(b)
		want := string(b) + string([]byte{byte(s), byte(s >> 8), byte(s >> 16), byte(s >> 24)})
		if got := crc.Sealed(b); string(got) != want {
			t.Errorf("Sealed of %d bytes: %x; want %x", len(b), got, want)
		}
	}
}

func TestOpenOfSealed(t *testing.T) {
	for _, b := range rows() {
		if got, is := crc.Open(crc.Sealed(b)); !bytes.Equal(got, b) || !is {
			t.Errorf("Open of Sealed of %d bytes: %x, %v", len(b), got, is)
		}
		if got, is := crc.Open(crc.Sealed(crc.Sealed(b))); !bytes.Equal(got, crc.Sealed(b)) || !is {
			t.Errorf("Open of %d bytes that are sealed twice: %x, %v", len(b), got, is)
		}
	}
}

func refuseOpen(t *testing.T, b []byte) {
	t.Helper()
	if got, is := crc.Open(b); len(got) != 0 || is {
		t.Errorf("Open(%x): %x, %v; want nothing, no", b, got, is)
	}
}

func TestOpenOfFewBytes(t *testing.T) {
	refuseOpen(t, nil)
	for n := range 4 {
		refuseOpen(t, make([]byte, n))
		refuseOpen(t, bytes.Repeat([]byte{255}, n))
	}
	if b, is := crc.Open([]byte{0, 0, 0, 0}); len(b) != 0 || !is {
		t.Errorf("Open of the sum of no bytes: %x, %v", b, is)
	}
	for i := range 4 {
		for x := 1; x < 256; x++ {
			b := make([]byte, 4)
			b[i] = byte(x)
			refuseOpen(t, b)
		}
	}
}

func TestOpenOfATurnedBit(t *testing.T) {
	for _, b := range [][]byte{nil, {0}, []byte("123456789"), row(64, 5), row(256, 6)} {
		sealed := crc.Sealed(b)
		for i := range 8 * len(sealed) {
			wrong := bytes.Clone(sealed)
			wrong[i/8] ^= 1 << (i % 8)
			refuseOpen(t, wrong)
		}
	}
}

func TestOpenOfOtherLengths(t *testing.T) {
	sealed := crc.Sealed([]byte("123456789"))
	for n := range sealed {
		refuseOpen(t, sealed[:n])
	}
	for n := 1; n < len(sealed); n++ {
		refuseOpen(t, sealed[n:])
	}
	refuseOpen(t, append(bytes.Clone(sealed), 0))
	refuseOpen(t, []byte("123456789\xE3\x06\x92\x83"))
	refuseOpen(t, []byte("\x83\x92\x06\xE3123456789"))
}

// What is handed in stays as it was, with what stands behind it in its memory; what is answered shares none of it.
func TestMemory(t *testing.T) {
	memory := row(40, 7)
	was := bytes.Clone(memory)
	sealed := crc.Sealed(memory[:20])
	for i := range sealed {
		sealed[i]++
	}
	empty := crc.Sealed(memory[:0])
	empty[0]++
	crc.Sum(memory[:20])
	crc.Add(3, memory[:20])
	if !bytes.Equal(memory, was) {
		t.Errorf("memory that was handed in: %x; was %x", memory, was)
	}
	closed := append(crc.Sealed(memory[:20]), 1, 2, 3)
	was = bytes.Clone(closed)
	opened, is := crc.Open(closed[:24])
	if !is || len(opened) != 20 {
		t.Fatalf("Open: %x, %v", opened, is)
	}
	for i := range opened {
		opened[i]++
	}
	_ = append(opened, 9, 9, 9, 9)
	if !bytes.Equal(closed, was) {
		t.Errorf("memory that was opened: %x; was %x", closed, was)
	}
}

// P2.3

func TestSumOfTwoRows(t *testing.T) {
	for _, b := range rows() {
		for cut := range len(b) + 1 {
			if s := crc.Add(crc.Sum(b[:cut]), b[cut:]); s != crc.Sum(b) {
				t.Fatalf("%d bytes, cut at %d: %08X; want %08X", len(b), cut, s, crc.Sum(b))
			}
			if cut == 300 {
				break
			}
		}
	}
	b := row(90, 8)
	three := crc.Add(crc.Add(crc.Sum(b[:17]), b[17:18]), b[18:])
	if three != crc.Sum(b) {
		t.Errorf("three rows: %08X; want %08X", three, crc.Sum(b))
	}
}

// turned is the row with bits turned: those of the pattern, from the bit at on.
func turned(b []byte, at int, pattern uint32) []byte {
	c := bytes.Clone(b)
	for i := range 32 {
		if place := at + i; pattern>>i&1 == 1 && place < 8*len(c) {
			c[place/8] ^= 1 << (place % 8)
		}
	}
	return c
}

func TestRowsThatDiffer(t *testing.T) {
	for _, b := range [][]byte{{0}, {0, 0, 0, 0}, []byte("123456789"), row(64, 9), row(256, 10)} {
		sum := crc.Sum(b)
		seed := uint32(11)
		for at := range 8 * len(b) {
			if crc.Sum(turned(b, at, 1)) == sum {
				t.Errorf("%d bytes, the bit %d turned: the same sum", len(b), at)
			}
			for range 8 {
				seed = seed*1664525 + 1013904223
				if pattern := seed>>16 ^ seed<<16 | 1; crc.Sum(turned(b, at, pattern)) == sum {
					t.Errorf("%d bytes, the bits %08X turned from %d on: the same sum", len(b), pattern, at)
				}
			}
			if crc.Sum(turned(b, at, 1<<31|1)) == sum || crc.Sum(turned(b, at, 1<<32-1)) == sum {
				t.Errorf("%d bytes, a run of 32 bits turned from %d on: the same sum", len(b), at)
			}
		}
	}
}

// P0.6

func FuzzCRC(f *testing.F) {
	f.Add([]byte("123456789"), uint32(0), 4)
	f.Add([]byte{}, uint32(1), -1)
	f.Fuzz(func(t *testing.T, b []byte, sum uint32, i int) {
		if crc.Sum(b) != plain(b) {
			t.Errorf("Sum(%x): %08X", b, crc.Sum(b))
		}
		want := uint32(0)
		if i >= 0 && i <= 255 {
			want = eight(uint32(i))
		}
		if crc.Table(i) != want {
			t.Errorf("Table(%d): %08X", i, crc.Table(i))
		}
		crc.Add(sum, b)
		if c, is := crc.Open(b); is && !bytes.Equal(crc.Sealed(c), b) || !is && len(c) != 0 {
			t.Errorf("Open(%x): %x, %v", b, c, is)
		}
	})
}

func BenchmarkSum(b *testing.B) {
	block := row(256, 12)
	b.SetBytes(256)
	for b.Loop() {
		crc.Sum(block)
	}
}
