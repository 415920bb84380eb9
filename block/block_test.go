package block_test

import (
	"encoding/binary"
	"hash/crc32"
	"math"
	"math/rand"
	"reflect"
	"slices"
	"strconv"
	"testing"

	"voile/api"
	"voile/block"
)

const top = math.MaxUint64

// sum puts into a block the sum of what stands behind its place.
func sum(b api.Block) api.Block {
	binary.LittleEndian.PutUint32(b[:], crc32.Checksum(b[4:], crc32.MakeTable(crc32.Castagnoli)))
	return b
}

// plain is a node's block just as the chapter's words tell it.
func plain(no uint32, n api.Node) api.Block {
	l := []byte{0, 0, 0, 0, byte(n.Kind), byte(len(n.Keys)), 0, 0}
	l = binary.LittleEndian.AppendUint32(l, no)
	l = binary.LittleEndian.AppendUint64(l, n.Birth)
	for i := range n.Keys {
		l = binary.LittleEndian.AppendUint64(l, n.Keys[i])
		l = binary.LittleEndian.AppendUint64(l, n.Vals[i])
	}
	var b api.Block
	copy(b[:], l)
	return sum(b)
}

// numbers are numbers of blocks, the least and the greatest among them.
func numbers() []uint32 {
	return []uint32{0, 1, 5, 255, 256, 239, 0x01020304, math.MaxInt32, 1 << 31, math.MaxUint32}
}

// full is a node of MaxKeys keys, the least and the greatest among them.
func full() api.Node {
	return api.Node{
		Kind:  api.NodeInner,
		Birth: 0x1122334455667788,
		Keys:  []uint64{0, 1, 0x0102030405060708, 1 << 63, top - 1, top},
		Vals:  []uint64{top, 0, 0x8070605040302010, 7, 7, 1},
	}
}

// nodes are nodes that may be: of each kind, of each number of keys, of the edges' numbers.
func nodes() []api.Node {
	l := []api.Node{{Kind: 2, Birth: 1}, {Kind: 1, Birth: top, Keys: []uint64{}, Vals: []uint64{}}}
	for kind := api.NodeInner; kind <= api.NodeTop; kind++ {
		for many := range api.MaxKeys + 1 {
			n := full()
			n.Kind, n.Birth = kind, uint64(many)<<40
			n.Keys, n.Vals = n.Keys[:many], n.Vals[:many]
			l = append(l, n)
			n = full()
			n.Kind, n.Birth = kind, 1<<63
			n.Keys, n.Vals = n.Keys[api.MaxKeys-many:], n.Vals[api.MaxKeys-many:]
			l = append(l, n)
		}
	}
	for _, key := range []uint64{0, 1, top} {
		l = append(l, api.Node{Kind: api.NodeTop, Keys: []uint64{key}, Vals: []uint64{0}})
	}
	return l
}

// wrong are nodes that may not be, by what is wrong with them.
func wrong() map[string]api.Node {
	l := map[string]api.Node{
		"zero":                  {},
		"a key less":            {Kind: 2, Keys: []uint64{1}, Vals: []uint64{1, 2}},
		"a value less":          {Kind: 2, Keys: []uint64{1, 2}, Vals: []uint64{1}},
		"no keys":               {Kind: 3, Vals: []uint64{1}},
		"no values":             {Kind: 1, Keys: []uint64{1}},
		"a value more than all": {Kind: 1, Keys: []uint64{1, 2, 3, 4, 5, 6}, Vals: []uint64{1, 2, 3, 4, 5, 6, 7}},
		"too many keys":         {Kind: 2, Keys: []uint64{1, 2, 3, 4, 5, 6, 7}, Vals: []uint64{1, 2, 3, 4, 5, 6, 7}},
		"too many keys alone":   {Kind: 2, Keys: []uint64{1, 2, 3, 4, 5, 6, 7}, Vals: []uint64{1, 2, 3, 4, 5, 6}},
		"256 keys":              {Kind: 2, Keys: make([]uint64, 256), Vals: make([]uint64, 256)},
		"very many keys":        {Kind: 2, Keys: make([]uint64, 1<<16), Vals: make([]uint64, 1<<16)},
		"a key twice":           {Kind: 2, Keys: []uint64{7, 7}, Vals: []uint64{1, 2}},
		"0 twice":               {Kind: 2, Keys: []uint64{0, 0, 1}, Vals: []uint64{1, 2, 3}},
		"the greatest twice":    {Kind: 2, Keys: []uint64{1, top, top}, Vals: []uint64{1, 2, 3}},
		"the last twice":        {Kind: 2, Keys: []uint64{1, 2, 3, 4, 5, 5}, Vals: []uint64{1, 2, 3, 4, 5, 6}},
		"falling keys":          {Kind: 2, Keys: []uint64{2, 1}, Vals: []uint64{1, 2}},
		"the last falls":        {Kind: 2, Keys: []uint64{1, 2, 3, 4, 5, 0}, Vals: []uint64{1, 2, 3, 4, 5, 6}},
		"the first is above":    {Kind: 2, Keys: []uint64{top, 0, 1}, Vals: []uint64{1, 2, 3}},
		"falls with the sign":   {Kind: 2, Keys: []uint64{1 << 63, 1}, Vals: []uint64{1, 2}},
	}
	for _, kind := range []api.NodeKind{-1, 0, 4, 5, 255, 256, 257, 258, 259, 1<<32 + 2, math.MaxInt, math.MinInt, math.MinInt + 2} {
		n := full()
		n.Kind = kind
		l["kind "+strconv.Itoa(int(kind))] = n
	}
	return l
}

func equal(a, b api.Node) bool {
	return a.Kind == b.Kind && a.Birth == b.Birth && slices.Equal(a.Keys, b.Keys) && slices.Equal(a.Vals, b.Vals)
}

func made(t *testing.T, no uint32, n api.Node) api.Block {
	t.Helper()
	b, e := block.Block(no, n)
	if e != api.OK {
		t.Fatalf("Block(%d, %v): %v", no, n, e)
	}
	return b
}

func refuseOf(t *testing.T, no uint32, b api.Block, why string) {
	t.Helper()
	if n, e := block.Of(no, b); e != api.ErrBytes || !reflect.DeepEqual(n, api.Node{}) {
		t.Errorf("%s: Of(%d, %x): %v, %v; want ErrBytes alone", why, no, b, n, e)
	}
}

// P4.1

// The example of the chapter.
func TestExample(t *testing.T) {
	want := sum(api.Block{4: 2, 8: 5, 12: 1})
	if b := made(t, 5, api.Node{Kind: 2, Birth: 1}); b != want {
		t.Errorf("%x; want %x", b, want)
	}
	n, e := block.Of(5, want)
	if e != api.OK || n.Kind != api.NodeMap || n.Birth != 1 || len(n.Keys) != 0 || len(n.Vals) != 0 {
		t.Errorf("%v, %v", n, e)
	}
}

func TestBlockByteByByte(t *testing.T) {
	want := api.Block{4: 1, 5: 6}
	copy(want[8:], "\x04\x03\x02\x01"+"\x88\x77\x66\x55\x44\x33\x22\x11"+
		"\x00\x00\x00\x00\x00\x00\x00\x00"+"\xff\xff\xff\xff\xff\xff\xff\xff"+
		"\x01\x00\x00\x00\x00\x00\x00\x00"+"\x00\x00\x00\x00\x00\x00\x00\x00"+
		"\x08\x07\x06\x05\x04\x03\x02\x01"+"\x10\x20\x30\x40\x50\x60\x70\x80"+
		"\x00\x00\x00\x00\x00\x00\x00\x80"+"\x07\x00\x00\x00\x00\x00\x00\x00"+
		"\xfe\xff\xff\xff\xff\xff\xff\xff"+"\x07\x00\x00\x00\x00\x00\x00\x00"+
		"\xff\xff\xff\xff\xff\xff\xff\xff"+"\x01\x00\x00\x00\x00\x00\x00\x00")
	if b := made(t, 0x01020304, full()); b != sum(want) {
		t.Errorf("%x; want %x", b, sum(want))
	}
}

func TestBlockIsAsTheWordsTellIt(t *testing.T) {
	for _, no := range numbers() {
		for _, n := range nodes() {
			b := made(t, no, n)
			if b != plain(no, n) {
				t.Errorf("Block(%d, %v): %x; want %x", no, n, b, plain(no, n))
			}
			if back, e := block.Of(no, b); e != api.OK || !equal(back, n) {
				t.Errorf("Of(%d) of the block of %v: %v, %v", no, n, back, e)
			}
		}
	}
}

func TestBlockOfAWrongNode(t *testing.T) {
	for why, n := range wrong() {
		for _, no := range numbers() {
			if b, e := block.Block(no, n); e != api.ErrArg || b != (api.Block{}) {
				t.Errorf("%s: Block(%d): %x, %v; want ErrArg alone", why, no, b, e)
			}
		}
	}
}

func TestMay(t *testing.T) {
	for _, n := range nodes() {
		if !block.May(n) {
			t.Errorf("%v may not be", n)
		}
	}
	for why, n := range wrong() {
		if block.May(n) {
			t.Errorf("%s: may be", why)
		}
	}
	for kind := api.NodeKind(-300); kind <= 600; kind++ {
		if is := kind == 1 || kind == 2 || kind == 3; block.May(api.Node{Kind: kind}) != is {
			t.Errorf("kind %d: %v", kind, !is)
		}
	}
}

// Each row of three small keys, of any order.
func TestMayIsOfRisingKeys(t *testing.T) {
	for row := range uint64(64) {
		keys := []uint64{row % 4, row / 4 % 4, row / 16}
		n := api.Node{Kind: api.NodeMap, Keys: keys, Vals: []uint64{0, 0, 0}}
		if is := keys[0] < keys[1] && keys[1] < keys[2]; block.May(n) != is {
			t.Errorf("keys %v: %v", keys, !is)
		}
	}
}

func TestOfAnotherNumber(t *testing.T) {
	for _, n := range nodes() {
		for _, no := range numbers() {
			b := made(t, no, n)
			for _, other := range numbers() {
				if other != no {
					refuseOf(t, other, b, "another number")
				}
			}
			for bit := range 32 {
				refuseOf(t, no^1<<bit, b, "a bit of the number")
			}
		}
	}
}

// Whichever byte is changed: of the sum, of what is told, of the noughts.
func TestOfAChangedByte(t *testing.T) {
	for _, n := range nodes() {
		b := made(t, 5, n)
		for at := range b {
			for bit := range 8 {
				c := b
				c[at] ^= 1 << bit
				refuseOf(t, 5, c, "a bit is turned")
			}
			c := b
			c[at] ^= 255
			refuseOf(t, 5, c, "a byte is turned")
		}
	}
}

// A right sum alone makes no node's block.
func TestOfWrongBytesWithTheirSum(t *testing.T) {
	two := api.Node{Kind: 2, Birth: 9, Keys: []uint64{3, 4}, Vals: []uint64{5, 6}}
	change := func(n api.Node, at int, to byte) api.Block {
		b := plain(5, n)
		b[at] = to
		return sum(b)
	}
	for to := range 256 {
		if to != 1 && to != 2 && to != 3 {
			refuseOf(t, 5, change(two, 4, byte(to)), "another kind")
			refuseOf(t, 5, change(api.Node{Kind: 2}, 4, byte(to)), "another kind, no keys")
		}
		if to != 2 {
			refuseOf(t, 5, change(two, 5, byte(to)), "another number of keys")
		}
		if to > api.MaxKeys {
			refuseOf(t, 5, change(full(), 5, byte(to)), "too many keys")
			refuseOf(t, 5, change(api.Node{Kind: 2}, 5, byte(to)), "too many keys, all noughts")
		}
	}
	for many := range api.MaxKeys + 1 {
		n := full()
		n.Keys, n.Vals = n.Keys[:many], n.Vals[:many]
		for _, at := range []int{6, 7, 20 + 16*many, 255} {
			refuseOf(t, 5, change(n, at, 1), "noughts that are none")
			refuseOf(t, 5, change(n, at, 128), "noughts that are none")
		}
		for at := 20 + 16*many; at < api.BlockSize; at++ {
			refuseOf(t, 5, change(n, at, 1), "noughts behind the keys")
		}
	}
	for at := 8; at < 12; at++ {
		refuseOf(t, 5, change(two, at, 77), "another number")
	}
	refuseOf(t, 5, change(two, 20, 4), "a key twice")
	refuseOf(t, 5, change(two, 20, 5), "falling keys")
	refuseOf(t, 5, change(two, 27, 1), "falling keys, by the highest byte")
	refuseOf(t, 5, change(two, 36, 3), "a key twice")
	for why, n := range wrong() {
		// Kinds and lists that have room in a block: those without are laid as another node's.
		if n.Kind >= 0 && n.Kind <= 255 && len(n.Keys) == len(n.Vals) && len(n.Keys) <= 14 {
			refuseOf(t, 5, plain(5, n), why)
		}
	}
	// What else has a right sum is a node's that may be.
	for at, to := range map[int]byte{12: 200, 19: 200, 20: 0, 28: 99, 35: 99, 36: 255, 43: 255, 44: 0, 51: 255} {
		b := change(two, at, to)
		n, e := block.Of(5, b)
		if e != api.OK || plain(5, n) != b {
			t.Errorf("byte %d is %d: %v, %v", at, to, n, e)
		}
	}
}

// A sum of other bytes, or laid in another order, is not the sum.
func TestOfAnotherSum(t *testing.T) {
	castagnoli := crc32.MakeTable(crc32.Castagnoli)
	for _, n := range nodes() {
		b := plain(5, n)
		c := b
		slices.Reverse(c[:4])
		if c != b {
			refuseOf(t, 5, c, "a sum the other way round")
		}
		c = b
		binary.LittleEndian.PutUint32(c[:], crc32.ChecksumIEEE(c[4:]))
		refuseOf(t, 5, c, "another polynomial's sum")
		c = b
		binary.LittleEndian.PutUint32(c[:], crc32.Checksum(c[4:20+16*len(n.Keys)], castagnoli))
		refuseOf(t, 5, c, "a sum without the noughts")
		c = b
		clear(c[:4])
		binary.LittleEndian.PutUint32(c[:], crc32.Checksum(c[:], castagnoli))
		refuseOf(t, 5, c, "a sum of its own place too")
		clear(c[:4])
		refuseOf(t, 5, c, "no sum")
	}
}

func TestOfNoBlock(t *testing.T) {
	var ones api.Block
	for i := range ones {
		ones[i] = 255
	}
	for _, no := range numbers() {
		refuseOf(t, no, api.Block{}, "noughts")
		refuseOf(t, no, sum(api.Block{}), "noughts with their sum")
		refuseOf(t, no, ones, "ones")
		refuseOf(t, no, sum(ones), "ones with their sum")
	}
}

// P4.2

func same(t *testing.T, a, b api.Node, should bool) {
	t.Helper()
	if block.Same(a, b) != should || block.Same(b, a) != should {
		t.Errorf("Same(%v, %v): %v, the other way %v; want %v", a, b, block.Same(a, b), block.Same(b, a), should)
	}
}

func TestSame(t *testing.T) {
	for i, a := range nodes() {
		for j, b := range nodes() {
			same(t, a, b, i == j || equal(a, b))
		}
		same(t, a, block.Copy(a), true)
	}
	n := full()
	for kind := api.NodeKind(-1); kind < 5; kind++ {
		c := full()
		c.Kind = kind
		same(t, n, c, kind == n.Kind)
	}
	for bit := range 64 {
		c := full()
		c.Birth ^= 1 << bit
		same(t, n, c, false)
		for i := range n.Keys {
			c = full()
			c.Keys[i] ^= 1 << bit
			same(t, n, c, false)
			c = full()
			c.Vals[i] ^= 1 << bit
			same(t, n, c, false)
		}
	}
	for many := range n.Keys {
		c := full()
		c.Keys = c.Keys[:many]
		same(t, n, c, false)
		c.Vals = c.Vals[:many]
		same(t, n, c, false)
		c.Keys = full().Keys
		same(t, n, c, false)
	}
}

// Nil and empty lists are one; nodes that may not be are held against each other as any.
func TestSameOfNilAndWrong(t *testing.T) {
	same(t, api.Node{}, api.Node{}, true)
	same(t, api.Node{Kind: 2}, api.Node{Kind: 2, Keys: []uint64{}, Vals: make([]uint64, 0, 9)}, true)
	same(t, api.Node{Keys: []uint64{1}}, api.Node{Vals: []uint64{1}}, false)
	same(t, api.Node{Keys: []uint64{1, 2}}, api.Node{Keys: []uint64{2, 1}}, false)
	for why, n := range wrong() {
		same(t, n, block.Copy(n), true)
		for other, o := range wrong() {
			if why != other && !equal(n, o) {
				same(t, n, o, false)
			}
		}
	}
}

func TestCopySharesNothing(t *testing.T) {
	all := nodes()
	for _, n := range wrong() {
		all = append(all, n)
	}
	for _, n := range all {
		// Room behind the lists, which a copy must not reach either.
		n.Keys = append(make([]uint64, 0, len(n.Keys)+3), n.Keys...)
		n.Vals = append(make([]uint64, 0, len(n.Vals)+3), n.Vals...)
		was := api.Node{Kind: n.Kind, Birth: n.Birth, Keys: slices.Clone(n.Keys), Vals: slices.Clone(n.Vals)}
		c := block.Copy(n)
		if !equal(c, n) {
			t.Fatalf("Copy(%v): %v", n, c)
		}
		scribble(c)
		if !equal(n, was) || slices.Max(append(n.Keys[len(n.Keys):cap(n.Keys)], n.Vals[len(n.Vals):cap(n.Vals)]...)) != 0 {
			t.Errorf("a change of the copy changed %v to %v", was, n)
		}
		c = block.Copy(n)
		scribble(n)
		if !equal(c, was) {
			t.Errorf("a change of the node changed its copy %v to %v", was, c)
		}
		c = block.Copy(was)
		_ = append(c.Keys, 77)
		_ = append(c.Vals, 78)
		if !equal(c, was) {
			t.Errorf("the lists of a copy share: %v; want %v", c, was)
		}
	}
}

// scribble changes all of a node's lists, and what lies behind them.
func scribble(n api.Node) {
	for _, l := range [][]uint64{n.Keys, n.Vals} {
		for i := range l {
			l[i] ^= 0xabcd
		}
		_ = append(l, 9, 9)
	}
}

func TestFind(t *testing.T) {
	for _, x := range []struct {
		keys []uint64
		key  uint64
		at   int
		is   bool
	}{
		{nil, 0, 0, false},
		{nil, 5, 0, false},
		{[]uint64{}, top, 0, false},
		{[]uint64{10, 20, 30}, 0, 0, false},
		{[]uint64{10, 20, 30}, 9, 0, false},
		{[]uint64{10, 20, 30}, 10, 0, true},
		{[]uint64{10, 20, 30}, 11, 1, false},
		{[]uint64{10, 20, 30}, 19, 1, false},
		{[]uint64{10, 20, 30}, 20, 1, true},
		{[]uint64{10, 20, 30}, 21, 2, false},
		{[]uint64{10, 20, 30}, 30, 2, true},
		{[]uint64{10, 20, 30}, 31, 3, false},
		{[]uint64{10, 20, 30}, top, 3, false},
		{[]uint64{0}, 0, 0, true},
		{[]uint64{0}, 1, 1, false},
		{[]uint64{top}, 0, 0, false},
		{[]uint64{top}, top - 1, 0, false},
		{[]uint64{top}, top, 0, true},
		{[]uint64{0, top}, 0, 0, true},
		{[]uint64{0, top}, 1 << 63, 1, false},
		{[]uint64{0, top}, top, 1, true},
		{[]uint64{1, 1 << 63}, 1<<63 - 1, 1, false},
		{[]uint64{1, 2, 3, 4, 5, 6}, 6, 5, true},
		{[]uint64{1, 2, 3, 4, 5, 6}, 7, 6, false},
	} {
		n := api.Node{Kind: api.NodeMap, Keys: x.keys, Vals: make([]uint64, len(x.keys))}
		if at, is := block.Find(n, x.key); at != x.at || is != x.is {
			t.Errorf("Find(%v, %d): %d, %v; want %d, %v", x.keys, x.key, at, is, x.at, x.is)
		}
	}
}

// Find of each key of the nodes, and of those beside it, against the words.
func TestFindIsAsTheWordsTellIt(t *testing.T) {
	for _, n := range nodes() {
		near := []uint64{0, 1, 2, 1 << 32, 1 << 63, top - 1, top}
		for _, k := range n.Keys {
			near = append(near, k-1, k, k+1)
		}
		for _, key := range near {
			below := 0
			for _, k := range n.Keys {
				if k < key {
					below++
				}
			}
			if at, is := block.Find(n, key); at != below || is != slices.Contains(n.Keys, key) {
				t.Errorf("Find(%v, %d): %d, %v; want %d", n.Keys, key, at, is, below)
			}
		}
	}
}

// Only keys are looked at: of which kind the node is, and what it has of values, is nothing to Find.
func TestFindOfKeysAlone(t *testing.T) {
	if at, is := block.Find(api.Node{Keys: []uint64{4, 8}}, 8); at != 1 || !is {
		t.Error(at, is)
	}
	if at, is := block.Find(api.Node{Kind: 2, Vals: []uint64{4, 8}}, 8); at != 0 || is {
		t.Error(at, is)
	}
	many := make([]uint64, 1000)
	for i := range many {
		many[i] = uint64(2 * i)
	}
	if at, is := block.Find(api.Node{Kind: 2, Keys: many}, 1001); at != 501 || is {
		t.Error(at, is)
	}
}

// What is handed in stays as it was; the lists of what is answered share nothing.
func TestMemory(t *testing.T) {
	for _, n := range nodes() {
		was := block.Copy(n)
		b := made(t, 5, n)
		kept := b
		block.May(n)
		block.Same(n, n)
		block.Find(n, 3)
		one, e := block.Of(5, b)
		two, _ := block.Of(5, b)
		if e != api.OK || !equal(n, was) || b != kept {
			t.Errorf("%v is %v, %v", was, n, e)
		}
		_ = append(one.Keys, 77)
		if !equal(one, was) {
			t.Errorf("the lists of an answer share: %v; want %v", one, was)
		}
		scribble(one)
		if !equal(two, was) || !equal(n, was) {
			t.Errorf("two answers share: %v; want %v", two, was)
		}
	}
}

// P4.1, P4.2: whatever node, of whatever number.
func TestRandomNodes(t *testing.T) {
	r := rand.New(rand.NewSource(4))
	for range 5000 {
		n := api.Node{Kind: api.NodeKind(r.Intn(5)), Birth: r.Uint64() >> r.Intn(64)}
		for range r.Intn(8) {
			n.Keys = append(n.Keys, r.Uint64()>>r.Intn(64))
			n.Vals = append(n.Vals, r.Uint64()>>r.Intn(64))
		}
		if r.Intn(4) > 0 {
			slices.Sort(n.Keys)
		}
		rising := slices.IsSorted(n.Keys) && len(slices.Compact(slices.Clone(n.Keys))) == len(n.Keys)
		may := n.Kind >= 1 && n.Kind <= 3 && len(n.Keys) <= 6 && rising
		no := r.Uint32()
		b, e := block.Block(no, n)
		if block.May(n) != may || may != (e == api.OK) {
			t.Fatalf("%v: may %v, %v", n, block.May(n), e)
		}
		if !may {
			continue
		}
		back, e := block.Of(no, b)
		if b != plain(no, n) || e != api.OK || !block.Same(back, n) || !equal(back, n) {
			t.Fatalf("%v: %x; back %v, %v", n, b, back, e)
		}
	}
}

// P0.6

func FuzzBlock(f *testing.F) {
	example, all := plain(5, api.Node{Kind: 2, Birth: 1}), plain(7, full())
	f.Add(example[:], uint32(5), true, uint64(0))
	f.Add(all[:], uint32(7), false, uint64(1))
	f.Add([]byte{4: 9, 5: 200}, uint32(math.MaxUint32), true, uint64(top))
	f.Fuzz(func(t *testing.T, bytes []byte, no uint32, right bool, key uint64) {
		var b api.Block
		copy(b[:], bytes)
		if right {
			binary.LittleEndian.PutUint32(b[8:], no)
			b = sum(b)
		}
		n, e := block.Of(no, b)
		if e != api.OK && (e != api.ErrBytes || !reflect.DeepEqual(n, api.Node{})) {
			t.Fatalf("Of(%d, %x): %v, %v", no, b, n, e)
		}
		if e == api.OK && (!block.May(n) || made(t, no, n) != b) {
			t.Fatalf("Of(%d, %x): %v", no, b, n)
		}
		at, is := block.Find(n, key)
		if at < 0 || at > len(n.Keys) || is != slices.Contains(n.Keys, key) || is && n.Keys[at] != key {
			t.Fatalf("Find(%v, %d): %d, %v", n.Keys, key, at, is)
		}
	})
}
