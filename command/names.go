package command

import (
	"math"

	"voile/api"
)

// named is the text of what a kind names, in the order of its bytes (V Volume, T To, S Size, A At, C Count, D Data), and whether there is such a kind.
func named(kind api.OpKind) (string, bool) {
	switch kind {
	case api.OpCreate, api.OpResize:
		return "VS", true
	case api.OpDelete:
		return "V", true
	case api.OpSnap:
		return "VT", true
	case api.OpWrite:
		return "VAD", true
	case api.OpZero, api.OpDiscard, api.OpRead:
		return "VAC", true
	case api.OpFlush:
		return "", true
	}
	return "", false
}

// shape is the shape of the bytes of an operation that names so much.
func shape(names string) string {
	text := "1"
	for _, letter := range names {
		if letter == 'D' {
			text += "*"
		} else {
			text += "4"
		}
	}
	return text
}

// bounded: is what the letter names in its bounds?
func bounded(o api.Op, letter rune) bool {
	switch letter {
	case 'V':
		return mayNumber(o.Volume)
	case 'T':
		return mayNumber(o.To) && o.To != o.Volume
	case 'S':
		return o.Size >= 0 && o.Size <= api.MaxSize
	case 'A':
		return o.At >= 0 && o.At <= api.MaxAt
	case 'C':
		return o.Count >= 1 && o.Count <= api.MaxCount
	case 'D':
		return len(o.Data) > 0 && maySectors(o.Data, api.MaxWrite)
	}
	return false
}

// mayNumber: may it be a volume's number?
func mayNumber(n uint64) bool { return n >= 1 && n <= math.MaxUint32 }

// maySectors: are the data whole sectors, and no more than so many?
func maySectors(data []byte, most int) bool {
	return len(data)%api.SectorSize == 0 && len(data)/api.SectorSize <= most
}

// value is what the letter names in an operation, as a value of wire.
func value(o api.Op, letter rune) any {
	switch letter {
	case 'V':
		return o.Volume
	case 'T':
		return o.To
	case 'S':
		return uint64(o.Size)
	case 'A':
		return uint64(o.At)
	case 'C':
		return uint64(o.Count)
	}
	return o.Data
}

// lay puts a value of wire into an operation, as what the letter names; false: it is of another type than the letter's.
func lay(o *api.Op, letter rune, own any) bool {
	if letter == 'D' {
		data, is := own.([]byte)
		o.Data = data
		return is
	}
	n, is := own.(uint64)
	switch letter {
	case 'V':
		o.Volume = n
	case 'T':
		o.To = n
	case 'S':
		o.Size = int(n)
	case 'A':
		o.At = int(n)
	case 'C':
		o.Count = int(n)
	}
	return is
}
