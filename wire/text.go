package wire

const hexDigits = "0123456789abcdef"

// Hex is two letters for each byte.
func Hex(b []byte) string {
	out := make([]byte, 0, 2*len(b))
	for _, x := range b {
		out = append(out, hexDigits[x>>4], hexDigits[x&15])
	}
	return string(out)
}

// Unhex is the bytes whose letters s is, and whether it is some bytes'.
func Unhex(s string) ([]byte, bool) {
	if len(s)%2 != 0 {
		return nil, false
	}
	out := make([]byte, 0, len(s)/2)
	for i := 0; i < len(s); i += 2 {
		high, okHigh := hexDigit(s[i])
		low, okLow := hexDigit(s[i+1])
		if !okHigh || !okLow {
			return nil, false
		}
		out = append(out, high<<4|low)
	}
	return out, true
}

func hexDigit(c byte) (byte, bool) {
	switch {
	case c >= '0' && c <= '9':
		return c - '0', true
	case c >= 'a' && c <= 'f':
		return c - 'a' + 10, true
	}
	return 0, false
}

// Decimal is the number whose text s is, and whether it is the text of one that is at most so great.
func Decimal(s string, most uint64) (uint64, bool) {
	if s == "" || len(s) > 1 && s[0] == '0' {
		return 0, false
	}
	n := uint64(0)
	for _, r := range s {
		if r < '0' || r > '9' {
			return 0, false
		}
		digit := uint64(r - '0')
		// Held against what room is left, so that nothing wraps round.
		if digit > most || n > (most-digit)/10 {
			return 0, false
		}
		n = 10*n + digit
	}
	return n, true
}
