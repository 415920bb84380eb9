// Package wire is layer 1: see shared/doc/01-wire.md.
package wire

import "voile/api"

// countSize is how many bytes tell how many bytes a blob has.
const countSize = 4

// Pack is the values' bytes, one behind the other, each as its letter of the shape says.
func Pack(shape string, values ...any) ([]byte, api.Errno) {
	// A shape's letters are single bytes, so its length is their number.
	if !May(shape) || len(values) != len(shape) {
		return nil, api.ErrArg
	}
	out := make([]byte, 0, Least(shape))
	for i, letter := range shape {
		var ok bool
		out, ok = appendValue(out, letter, values[i])
		if !ok {
			return nil, api.ErrArg
		}
	}
	return out, api.OK
}

// Unpack is the values that b begins with, and how many bytes they took.
func Unpack(shape string, b []byte) ([]any, int, api.Errno) {
	if !May(shape) {
		return nil, 0, api.ErrArg
	}
	// Asked ahead, so that a long shape beside few bytes takes no memory.
	if len(b) < Least(shape) {
		return nil, 0, api.ErrBytes
	}
	values := make([]any, 0, len(shape))
	taken := 0
	for _, letter := range shape {
		value, size, ok := cutValue(letter, b[taken:])
		if !ok {
			return nil, 0, api.ErrBytes
		}
		values = append(values, value)
		taken += size
	}
	return values, taken, api.OK
}

// May: may it be a shape?
func May(shape string) bool {
	for _, letter := range shape {
		if leastOf(letter) == 0 {
			return false
		}
	}
	return true
}

// Least is how many bytes a shape's values take at least.
func Least(shape string) int {
	sum := 0
	for _, letter := range shape {
		size := leastOf(letter)
		if size == 0 {
			return 0
		}
		sum += size
	}
	return sum
}

// leastOf is how many bytes a letter's value takes at least; 0: it is no letter of a shape.
func leastOf(letter rune) int {
	switch letter {
	case '?':
		return 1
	case '*':
		return countSize
	case '#':
		return api.BlockSize
	}
	return widthOf(letter)
}

// widthOf is how many bytes a letter's number has; 0: the letter is not a number's.
func widthOf(letter rune) int {
	switch letter {
	case '1', '2', '4', '8':
		return int(letter - '0')
	}
	return 0
}

// appendValue puts a value's bytes behind those of out, if it is one of the letter's.
func appendValue(out []byte, letter rune, value any) ([]byte, bool) {
	switch v := value.(type) {
	case uint64:
		width := widthOf(letter)
		// A shift by all 64 bits leaves nothing, so every number has room in 8 bytes.
		if width == 0 || v>>(8*width) != 0 {
			return nil, false
		}
		return appendNumber(out, v, width), true
	case bool:
		if letter != '?' {
			return nil, false
		}
		return append(out, byteOf(v)), true
	case []byte:
		if letter != '*' || len(v) > api.MaxBlob {
			return nil, false
		}
		return append(appendNumber(out, uint64(len(v)), countSize), v...), true
	case api.Block:
		if letter != '#' {
			return nil, false
		}
		return append(out, v[:]...), true
	}
	return nil, false
}

// cutValue is the value of the letter's type that b begins with, and how many bytes it took.
func cutValue(letter rune, b []byte) (any, int, bool) {
	if len(b) < leastOf(letter) {
		return nil, 0, false
	}
	switch letter {
	case '?':
		if b[0] > 1 {
			return nil, 0, false
		}
		return b[0] == 1, 1, true
	case '*':
		return cutBlob(b)
	case '#':
		var block api.Block
		copy(block[:], b)
		return block, api.BlockSize, true
	}
	width := widthOf(letter)
	return number(b[:width]), width, true
}

// cutBlob is the blob that b, of at least countSize bytes, begins with.
func cutBlob(b []byte) (any, int, bool) {
	count := number(b[:countSize])
	rest := b[countSize:]
	if count > api.MaxBlob || count > uint64(len(rest)) {
		return nil, 0, false
	}
	blob := make([]byte, count)
	copy(blob, rest)
	return blob, countSize + len(blob), true
}

// appendNumber puts a number's bytes, the lowest first, behind those of out.
func appendNumber(out []byte, n uint64, width int) []byte {
	for range width {
		out = append(out, byte(n))
		n >>= 8
	}
	return out
}

// number is the number that bytes are, the lowest first.
func number(b []byte) uint64 {
	n := uint64(0)
	for i, x := range b {
		n |= uint64(x) << (8 * i)
	}
	return n
}

func byteOf(yes bool) byte {
	if yes {
		return 1
	}
	return 0
}
