package part_test

import (
	"bytes"
	"math/rand"
	"slices"
	"testing"

	"voile/api"
	"voile/part"
)

// P12.3

// follows holds what follows of a row's parts: they are its sectors, each once, in order; each is of another block, and all but the first and the last one are whole.
func follows(t testing.TB, at, count int) {
	t.Helper()
	parts := part.Split(at, count)
	next := at
	for i, s := range parts {
		if s.From < 0 || s.To > 4 || s.From >= s.To || s.Block*4+s.From != next {
			t.Errorf("%d, %d: the part %v; the sector %d comes next", at, count, s, next)
		}
		next = s.Block*4 + s.To
		if i > 0 && s.Block <= parts[i-1].Block {
			t.Errorf("%d, %d: the part %v behind %v", at, count, s, parts[i-1])
		}
		if i > 0 && i < len(parts)-1 && !part.Whole(s) {
			t.Errorf("%d, %d: the part %v is not whole", at, count, s)
		}
		if part.Whole(s) != (s.To-s.From == 4) {
			t.Errorf("%d, %d: is the part %v whole? %v", at, count, s, part.Whole(s))
		}
	}
	if next != at+count {
		t.Errorf("%d, %d: the parts end ahead of %d", at, count, next)
	}
}

func TestFollows(t *testing.T) {
	for _, at := range ats() {
		for count := 1; count <= 60; count++ {
			follows(t, at, count)
		}
	}
}

// carried holds that a row's data, taken part by part and merged into blocks, is there, and all else as it was.
func carried(t testing.TB, at int, data []byte) {
	t.Helper()
	count := len(data) / api.SectorSize
	var row, there []byte
	for ahead, s := range part.Over(at, count) {
		own := part.Data(s, at, data)
		if !bytes.Equal(own, data[ahead*64:(ahead+s.To-s.From)*64]) {
			t.Errorf("%d, %d: %d sectors ahead, the part %v: %v", at, count, ahead, s, own)
		}
		row = append(row, own...)
		b := blockOf(byte(s.Block) + 7)
		x, e := part.Merge(b, s.From, own)
		if e != api.OK || x != plainMerged(b, s.From, own) {
			t.Errorf("%d, %d: the part %v merged: errno %d, %v", at, count, s, e, x)
		}
		there = append(there, part.Cut(x, s)...)
		for _, other := range []api.Span{{From: 0, To: s.From}, {From: s.To, To: 4}} {
			if !bytes.Equal(part.Cut(x, other), part.Cut(b, other)) {
				t.Errorf("%d, %d: the part %v merged: of %v another", at, count, s, other)
			}
		}
	}
	if !bytes.Equal(row, data) || !bytes.Equal(there, data) {
		t.Errorf("%d, %d: the data of the parts, and what was merged, is not the row's", at, count)
	}
}

func TestCarried(t *testing.T) {
	for _, at := range ats() {
		for count := 1; count <= 20; count++ {
			carried(t, at, some(count*api.SectorSize, byte(count)))
		}
	}
}

// A block that is merged with what is cut of it is as it was; with what is cut of another, it has that there.
func TestMergedWithCut(t *testing.T) {
	one, other := blockOf(1), blockOf(101)
	for _, s := range allParts(3) {
		merged(t, one, s.From, part.Cut(one, s), one)
		x, e := part.Merge(one, s.From, part.Cut(other, s))
		if e != api.OK || !bytes.Equal(part.Cut(x, s), part.Cut(other, s)) {
			t.Errorf("%v: errno %d, %v", s, e, x)
		}
		merged(t, x, s.From, part.Cut(one, s), one)
	}
	// Of what is no part nothing is cut, which is merged from wherever.
	for _, s := range noParts(3) {
		for from := range api.Sectors + 1 {
			merged(t, one, from, part.Cut(one, s), one)
		}
	}
}

// overwrite changes bytes, up to their capacity.
func overwrite(b []byte) {
	b = b[:cap(b)]
	for i := range b {
		b[i] ^= 0xFF
	}
}

// What comes out shares no memory with what was handed in, nor with what came out ahead of it.
func TestNewMemory(t *testing.T) {
	for _, s := range allParts(2) {
		b := blockOf(1)
		first, second := part.Cut(b, s), part.Cut(b, s)
		overwrite(first)
		if b != blockOf(1) || !bytes.Equal(second, plainCut(b, s)) || !bytes.Equal(part.Cut(b, s), second) {
			t.Errorf("Cut of %v shares its memory", s)
		}
		data := some(12*api.SectorSize, 1)
		want := plainData(s, 5, data)
		first, second = part.Data(s, 5, data), part.Data(s, 5, data)
		overwrite(first)
		if !bytes.Equal(data, some(12*api.SectorSize, 1)) || !bytes.Equal(second, want) {
			t.Errorf("Data of %v shares its memory", s)
		}
		overwrite(data)
		if !bytes.Equal(second, want) {
			t.Errorf("Data of %v shares the data's memory", s)
		}
		data = some((s.To-s.From)*api.SectorSize, 50)
		x, e := part.Merge(b, s.From, data)
		now := x
		overwrite(data)
		if e != api.OK || x != now || b != blockOf(1) {
			t.Errorf("Merge of %v shares its memory", s)
		}
	}
	first, second := part.Split(3, 20), part.Split(3, 20)
	for i := range first {
		first[i] = api.Span{Block: 99}
	}
	if want := partsOf(plainSteps(3, 20)); !slices.Equal(second, want) || !slices.Equal(part.Split(3, 20), want) {
		t.Errorf("Split shares its memory: %v", second)
	}
}

// No call changes what an earlier one answered.
func TestEarlierAnswers(t *testing.T) {
	type answers struct {
		parts     []api.Span
		cut, data []byte
		block     api.Block
		at, count int
	}
	r := rand.New(rand.NewSource(12))
	var all []answers
	var bytesHanded [][]byte
	for range 300 {
		a := answers{at: r.Intn(100), count: 1 + r.Intn(30)}
		data := some(a.count*api.SectorSize, byte(a.at))
		a.parts = part.Split(a.at, a.count)
		s := a.parts[len(a.parts)-1]
		a.data = part.Data(s, a.at, data)
		a.block, _ = part.Merge(blockOf(byte(a.at)), s.From, a.data)
		a.cut = part.Cut(a.block, s)
		all, bytesHanded = append(all, a), append(bytesHanded, data)
	}
	for i, a := range all {
		data := some(a.count*api.SectorSize, byte(a.at))
		steps := plainSteps(a.at, a.count)
		s := steps[len(steps)-1].part
		want := plainData(s, a.at, data)
		if !slices.Equal(a.parts, partsOf(steps)) || !bytes.Equal(a.data, want) || !bytes.Equal(a.cut, want) ||
			a.block != plainMerged(blockOf(byte(a.at)), s.From, want) || !bytes.Equal(bytesHanded[i], data) {
			t.Errorf("%d, %d: what was answered is another now: %+v", a.at, a.count, a)
		}
	}
}

// number is one about an edge, or any one.
func number(r *rand.Rand) int {
	switch l := bounds(); r.Intn(4) {
	case 0:
		return l[r.Intn(len(l))]
	case 1:
		return end - 8 + r.Intn(16)
	case 2:
		return int(r.Uint64())
	}
	return r.Intn(40) - 4
}

// Random arguments against the plain ones.
func random(t testing.TB, seed int64) {
	r := rand.New(rand.NewSource(seed))
	for range 50 {
		at, count := number(r), r.Intn(50)-2
		var want []step
		if at >= 0 && count > 0 && at <= end-count {
			want = plainSteps(at, count)
			follows(t, at, count)
			carried(t, at, some(count*api.SectorSize, byte(at)))
		}
		told(t, at, count, want)
		s := api.Span{Block: r.Intn(12) - 1, From: r.Intn(6) - 1, To: r.Intn(7) - 1}
		if r.Intn(3) == 0 {
			s.Block, at = endBlock-r.Intn(4)+1, end-r.Intn(20)+2
		}
		b, data := blockOf(byte(at)), some(r.Intn(20*api.SectorSize), byte(count))
		cut(t, b, s, plainCut(b, s))
		had(t, s, at, data, plainData(s, at, data))
		from, many := r.Intn(7)-1, r.Intn(6)*64+r.Intn(2)*r.Intn(64)
		if from < 0 || from > 4 || many%64 != 0 || from+many/64 > 4 {
			refused(t, from, many)
		} else {
			merged(t, b, from, some(many, byte(at)), plainMerged(b, from, some(many, byte(at))))
		}
		if s := (api.Span{Block: number(r), From: number(r), To: number(r)}); part.Whole(s) != (s.From == 0 && s.To == 4) {
			t.Errorf("Whole(%v): %v", s, part.Whole(s))
		}
	}
}

func TestRandom(t *testing.T) {
	for seed := range int64(60) {
		random(t, seed)
	}
}

// wild hands in any numbers at all: whatever they are, the answer is the plain one, or none.
func wild(t testing.TB, at, count, block, from, to, many int) {
	t.Helper()
	many = int(uint(many) % 4096)
	var want []step
	if at >= 0 && count > 0 && count < 4096 && at <= end-count {
		want = plainSteps(at, count)
	}
	if want != nil || at < 0 || count < 1 || at > end || count > end-at {
		told(t, at, count, want)
	}
	s := api.Span{Block: block, From: from, To: to}
	b, data := blockOf(byte(from)), some(many, byte(to))
	cut(t, b, s, plainCut(b, s))
	had(t, s, at, data, plainData(s, at, data))
	if from < 0 || from > 4 || many%64 != 0 || many/64 > 4-from {
		refused(t, from, many)
	} else {
		merged(t, b, from, data, plainMerged(b, from, data))
	}
	if part.Whole(s) != (from == 0 && to == 4) {
		t.Errorf("Whole(%v): %v", s, part.Whole(s))
	}
}

func FuzzPart(f *testing.F) {
	f.Add(3, 6, 1, 0, 4, 256)
	f.Add(end-5, 5, endBlock, 0, 4, 512)
	f.Add(-1, -1, -1, -1, -1, -1)
	f.Fuzz(func(t *testing.T, at, count, block, from, to, many int) { wild(t, at, count, block, from, to, many) })
}
