package wire_test

import (
	"bytes"
	"reflect"
	"strings"
	"testing"

	"voile/api"
	"voile/wire"
)

const letters = "1248?*#"

// sample is a value of the letter's type.
func sample(letter byte) any {
	switch letter {
	case '?':
		return true
	case '*':
		return []byte("xyz")
	case '#':
		return api.Block{0: 1, 255: 2}
	}
	return uint64(200)
}

func refusePack(t *testing.T, shape string, values ...any) {
	t.Helper()
	if b, e := wire.Pack(shape, values...); len(b) != 0 || e != api.ErrArg {
		t.Errorf("Pack(%q) of %d values: %d bytes, %v; want ErrArg alone", shape, len(values), len(b), e)
	}
}

func refuseUnpack(t *testing.T, shape string, b []byte, want api.Errno) {
	t.Helper()
	if l, n, e := wire.Unpack(shape, b); len(l) != 0 || n != 0 || e != want {
		t.Errorf("Unpack(%q) of %d bytes: %d values, %d, %v; want %v alone", shape, len(b), len(l), n, e, want)
	}
}

// P1.1

func TestPackBytes(t *testing.T) {
	block := api.Block{0: 3, 255: 4}
	for _, x := range []struct {
		shape  string
		values []any
		want   string
	}{
		{"4?*", []any{uint64(258), true, []byte{7}}, "\x02\x01\x00\x00\x01\x01\x00\x00\x00\x07"},
		{"", nil, ""},
		{"1", []any{uint64(0)}, "\x00"},
		{"1", []any{uint64(1<<8 - 1)}, "\xff"},
		{"2", []any{uint64(0x1234)}, "\x34\x12"},
		{"2", []any{uint64(1<<16 - 1)}, "\xff\xff"},
		{"4", []any{uint64(0x12345678)}, "\x78\x56\x34\x12"},
		{"4", []any{uint64(1<<32 - 1)}, "\xff\xff\xff\xff"},
		{"8", []any{uint64(0x123456789abcdef0)}, "\xf0\xde\xbc\x9a\x78\x56\x34\x12"},
		{"8", []any{uint64(1<<64 - 1)}, strings.Repeat("\xff", 8)},
		{"??", []any{false, true}, "\x00\x01"},
		{"*", []any{[]byte{}}, "\x00\x00\x00\x00"},
		{"*", []any{[]byte(nil)}, "\x00\x00\x00\x00"},
		{"**", []any{[]byte("ab"), []byte("c")}, "\x02\x00\x00\x00ab\x01\x00\x00\x00c"},
		{"*", []any{bytes.Repeat([]byte{9}, 258)}, "\x02\x01\x00\x00" + strings.Repeat("\x09", 258)},
		{"#1", []any{block, uint64(5)}, string(block[:]) + "\x05"},
	} {
		if b, e := wire.Pack(x.shape, x.values...); string(b) != x.want || e != api.OK {
			t.Errorf("Pack(%q): %x, %v; want %x", x.shape, b, e, x.want)
		}
	}
}

func TestPackNumberWithoutRoom(t *testing.T) {
	for shape, least := range map[string]uint64{"1": 1 << 8, "2": 1 << 16, "4": 1 << 32} {
		refusePack(t, shape, least)
		refusePack(t, shape, uint64(1<<64-1))
		refusePack(t, "8"+shape, uint64(1), least)
	}
}

func TestPackMostBytes(t *testing.T) {
	blob := make([]byte, api.MaxBlob+1)
	blob[0], blob[api.MaxBlob-1] = 5, 6
	b, e := wire.Pack("*", blob[:api.MaxBlob])
	if e != api.OK || string(b[:4]) != "\x00\x00\x00\x01" || !bytes.Equal(b[4:], blob[:api.MaxBlob]) {
		t.Errorf("MaxBlob bytes: %d bytes, %v", len(b), e)
	}
	refusePack(t, "*", blob)
}

func TestPackAnotherLetter(t *testing.T) {
	for c := range 256 {
		if shape := string([]byte{byte(c)}); !strings.Contains(letters, shape) {
			refusePack(t, shape, uint64(1))
			refusePack(t, "1"+shape, uint64(1), uint64(1))
			refusePack(t, shape)
		}
	}
	for _, shape := range []string{"é", "１", "1\xff", "\xc3", "\ufffd", "11\x00"} {
		for n := range 4 {
			refusePack(t, shape, []any{uint64(1), uint64(1), uint64(1)}[:n]...)
		}
	}
}

func TestPackAnotherNumberOfValues(t *testing.T) {
	refusePack(t, "", uint64(1))
	for i := range len(letters) {
		one := letters[i : i+1]
		v := sample(letters[i])
		refusePack(t, one)
		refusePack(t, one, v, v)
		refusePack(t, one+one, v)
		refusePack(t, one+one, v, v, v)
	}
}

func TestPackAnotherType(t *testing.T) {
	type number uint64
	type truth bool
	type blob []byte
	type block api.Block
	never := []any{nil, 1, int64(1), uint(1), uint32(1), byte(1), uintptr(1), 1.0, "x", 'x', "", [256]byte{}, []any{uint64(1)}, []string{"x"}, []int8{1}, &api.Block{}, new(uint64), api.Sector{}, api.OK, struct{}{}, func() {}, number(1), truth(true), blob("x"), block{}}
	for i := range len(letters) {
		shape := letters[i : i+1]
		for _, v := range never {
			refusePack(t, shape, v)
		}
		for j := range len(letters) {
			v := sample(letters[j])
			if reflect.TypeOf(v) != reflect.TypeOf(sample(letters[i])) {
				refusePack(t, shape, v)
			} else if _, e := wire.Pack(shape, v); e != api.OK {
				t.Errorf("Pack(%q) of %T: %v", shape, v, e)
			}
		}
	}
	// What is nothing of its type is of that type all the same.
	for _, shape := range []string{"?", "*", "#"} {
		refusePack(t, shape, uint64(0))
	}
	for _, shape := range []string{"1", "2", "4", "8"} {
		refusePack(t, shape, false)
		refusePack(t, shape, []byte(nil))
		refusePack(t, shape, api.Block{})
	}
}

func TestPackLeavesWhatItIsGiven(t *testing.T) {
	blob := append(make([]byte, 0, 64), "abc"...)
	values := []any{blob, uint64(4)}
	b, _ := wire.Pack("*1", values...)
	for i := range b {
		b[i] = 0xee
	}
	if string(blob) != "abc" || blob[:4][3] != 0 || len(values) != 2 || values[1] != uint64(4) {
		t.Errorf("changed: %q %v", blob, values)
	}
}

// P1.2

func TestUnpackValues(t *testing.T) {
	block := api.Block{0: 3, 255: 4}
	for _, x := range []struct {
		shape, b string
		want     []any
		n        int
	}{
		{"2", "\x03\x01\x09", []any{uint64(259)}, 2},
		{"4?*", "\x02\x01\x00\x00\x01\x01\x00\x00\x00\x07", []any{uint64(258), true, []byte{7}}, 10},
		{"", "", []any{}, 0},
		{"", "abc", []any{}, 0},
		{"1", "\xff", []any{uint64(255)}, 1},
		{"4", "\x78\x56\x34\x12", []any{uint64(0x12345678)}, 4},
		{"4", "\xff\xff\xff\xff", []any{uint64(1<<32 - 1)}, 4},
		{"8", "\xf0\xde\xbc\x9a\x78\x56\x34\x12", []any{uint64(0x123456789abcdef0)}, 8},
		{"8", strings.Repeat("\xff", 8), []any{uint64(1<<64 - 1)}, 8},
		{"??", "\x00\x01", []any{false, true}, 2},
		{"*1", "\x00\x00\x00\x00\x08", []any{[]byte{}, uint64(8)}, 5},
		{"#1", string(block[:]) + "\x05", []any{block, uint64(5)}, 257},
	} {
		l, n, e := wire.Unpack(x.shape, []byte(x.b))
		if e != api.OK || n != x.n || len(l) != len(x.want) || len(l) > 0 && !reflect.DeepEqual(l, x.want) {
			t.Errorf("Unpack(%q, %x): %v, %d, %v", x.shape, x.b, l, n, e)
		}
	}
}

func TestUnpackTypesAreTheLetters(t *testing.T) {
	l, _, e := wire.Unpack("1?", []byte{1, 1})
	if e != api.OK {
		t.Fatal(e)
	}
	if _, is := l[0].(bool); is {
		t.Error("a number is a bool")
	}
	defer func() {
		if recover() == nil {
			t.Error("a yes or no was asserted to be a number")
		}
	}()
	_ = l[1].(uint64)
}

func TestUnpackTooFewBytes(t *testing.T) {
	whole, e := wire.Pack(letters, uint64(1), uint64(2), uint64(3), uint64(4), true, []byte("xyz"), api.Block{7})
	if e != api.OK {
		t.Fatal(e)
	}
	if _, n, e := wire.Unpack(letters, whole); n != len(whole) || e != api.OK {
		t.Error(n, e)
	}
	for n := range whole {
		refuseUnpack(t, letters, whole[:n], api.ErrBytes)
	}
	for i := range len(letters) {
		shape := letters[i : i+1]
		b, _ := wire.Pack(shape, sample(letters[i]))
		refuseUnpack(t, shape, b[:len(b)-1], api.ErrBytes)
		refuseUnpack(t, shape, nil, api.ErrBytes)
	}
	refuseUnpack(t, strings.Repeat("#", 1<<20), []byte("x"), api.ErrBytes)
}

func TestUnpackAnotherTruth(t *testing.T) {
	for c := 2; c < 256; c++ {
		refuseUnpack(t, "?", []byte{byte(c)}, api.ErrBytes)
		refuseUnpack(t, "1?", []byte{1, byte(c), 1}, api.ErrBytes)
	}
}

func TestUnpackMostBytes(t *testing.T) {
	b := make([]byte, 4+api.MaxBlob+1)
	b[3], b[4], b[4+api.MaxBlob-1] = 1, 5, 6
	l, n, e := wire.Unpack("*", b)
	if e != api.OK || n != 4+api.MaxBlob || !bytes.Equal(l[0].([]byte), b[4:4+api.MaxBlob]) {
		t.Errorf("MaxBlob bytes: %d, %v", n, e)
	}
	b[0] = 1
	refuseUnpack(t, "*", b, api.ErrBytes)
	refuseUnpack(t, "*", []byte("\xff\xff\xff\xffxyz"), api.ErrBytes)
	refuseUnpack(t, "*", []byte("\x00\x00\x00\x80xyz"), api.ErrBytes)
	refuseUnpack(t, "**", []byte("\x00\x00\x00\x00\x05\x00\x00\x00abcd"), api.ErrBytes)
}

func TestUnpackAnotherLetterComesFirst(t *testing.T) {
	for _, shape := range []string{"3", "x", "1é", "8 ", "?0", "*9", "#\xff", "８"} {
		refuseUnpack(t, shape, nil, api.ErrArg)
		refuseUnpack(t, shape, []byte{2}, api.ErrArg)
		refuseUnpack(t, shape, make([]byte, 600), api.ErrArg)
	}
}

func TestUnpackIsNewMemory(t *testing.T) {
	b := []byte("\x02\x00\x00\x00ab\x02\x00\x00\x00cd")
	l, _, e := wire.Unpack("**", b)
	if e != api.OK {
		t.Fatal(e)
	}
	first, second := l[0].([]byte), l[1].([]byte)
	_ = append(first, "zzzzzzzz"...)
	first[0] = 'q'
	if string(b) != "\x02\x00\x00\x00ab\x02\x00\x00\x00cd" || string(second) != "cd" {
		t.Errorf("a blob is shared: %q %q", b, second)
	}
	clear(b)
	if string(first) != "qb" || string(second) != "cd" {
		t.Errorf("a blob is the caller's: %q %q", first, second)
	}
}

// P1.3

func TestMay(t *testing.T) {
	for _, shape := range []string{"", "1", "2", "4", "8", "?", "*", "#", "1248?*#", "##**??"} {
		if !wire.May(shape) {
			t.Errorf("%q may not be", shape)
		}
	}
	for c := range 256 {
		shape := string([]byte{byte(c)})
		if wire.May(shape) != strings.Contains(letters, shape) || wire.May("1"+shape+"1") != wire.May(shape) {
			t.Errorf("%q", shape)
		}
	}
	for _, shape := range []string{"é", "1é", "é1", "１", "\xff", "1\xc3", "\ufffd"} {
		if wire.May(shape) {
			t.Errorf("%q may be", shape)
		}
	}
}

func TestLeast(t *testing.T) {
	for shape, want := range map[string]int{"": 0, "1": 1, "2": 2, "4": 4, "8": 8, "?": 1, "*": 4, "#": 256, "**": 8, letters: 276, "3": 0, "1x": 0, "x1": 0, "8é": 0, "#\xff": 0} {
		if n := wire.Least(shape); n != want {
			t.Errorf("Least(%q): %d, want %d", shape, n, want)
		}
	}
}
