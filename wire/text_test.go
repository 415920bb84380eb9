package wire_test

import (
	"encoding/hex"
	"math/big"
	"strings"
	"testing"

	"voile/wire"
)

// P1.3

func TestHex(t *testing.T) {
	all := make([]byte, 256)
	for i := range all {
		all[i] = byte(i)
	}
	for _, b := range [][]byte{nil, {}, {0}, {0, 0}, {0x1a, 0xff}, all} {
		s := wire.Hex(b)
		if s != hex.EncodeToString(b) {
			t.Errorf("Hex(%x): %s", b, s)
		}
		if back, is := wire.Unhex(s); string(back) != string(b) || !is {
			t.Errorf("Unhex(%s): %x %v", s, back, is)
		}
	}
}

func TestUnhexOfAllPairs(t *testing.T) {
	for c := range 1 << 16 {
		s := string([]byte{byte(c >> 8), byte(c)})
		want, err := hex.DecodeString(s)
		ok := err == nil && s == strings.ToLower(s)
		b, is := wire.Unhex(s)
		if is != ok || ok && string(b) != string(want) || !ok && len(b) != 0 {
			t.Errorf("Unhex(%q): %x %v", s, b, is)
		}
	}
}

func TestUnhexOfNoBytes(t *testing.T) {
	for _, s := range []string{"0", "000", "0g", "00FF", "ff0", "00 ", " 00", "0x00", "é", "00é", "é0", "\xff\xff", "00\x00\x00", "０0"} {
		if b, is := wire.Unhex(s); len(b) != 0 || is {
			t.Errorf("Unhex(%q): %x %v", s, b, is)
		}
	}
}

func TestDecimal(t *testing.T) {
	edges := []uint64{0, 1, 8, 9, 10, 11, 99, 100, 101, 255, 256, 1<<32 - 1, 1 << 32, 1<<63 - 1, 1 << 63, (1<<64 - 1) / 10, 1<<64 - 2, 1<<64 - 1}
	for _, most := range edges {
		bound := new(big.Int).SetUint64(most)
		for _, near := range edges {
			for step := int64(-2); step <= 2; step++ {
				n := new(big.Int).SetUint64(near)
				n.Add(n, big.NewInt(step))
				ok := n.Sign() >= 0 && n.Cmp(bound) <= 0
				want := uint64(0)
				if ok {
					want = n.Uint64()
				}
				if got, is := wire.Decimal(n.String(), most); got != want || is != ok {
					t.Errorf("Decimal(%s, %d): %d %v", n, most, got, is)
				}
			}
		}
	}
}

func TestDecimalOfEachByte(t *testing.T) {
	for c := range 256 {
		digit, ok := uint64(0), c >= '0' && c <= '9'
		if ok {
			digit = uint64(c - '0')
		}
		one := string([]byte{byte(c)})
		if n, is := wire.Decimal(one, 99); n != digit || is != ok {
			t.Errorf("Decimal(%q): %d %v", one, n, is)
		}
		if n, is := wire.Decimal("1"+one, 99); is != ok || ok && n != 10+digit || !ok && n != 0 {
			t.Errorf("Decimal(%q): %d %v", "1"+one, n, is)
		}
	}
}

func TestDecimalOfNoNumber(t *testing.T) {
	for _, s := range []string{"", "00", "01", "007", "-0", "-1", "+1", " 1", "1 ", "1\n", "1_0", "0x1", "1e1", "1.0", "x", "1x", "é", "1é", "１", "١", "\xff", "1\x00", "184467440737095516150", strings.Repeat("9", 1000), "0" + strings.Repeat("0", 1000)} {
		if n, is := wire.Decimal(s, 1<<64-1); n != 0 || is {
			t.Errorf("Decimal(%q): %d %v", s, n, is)
		}
	}
}
