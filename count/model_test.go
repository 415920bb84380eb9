package count_test

import (
	"math/rand"
	"reflect"
	"testing"

	"voile/api"
	"voile/count"
)

// named is how often a block is named now, and was at the last commit.
type named struct{ now, was int }

// model is an area just as the chapter's words tell it.
type model struct {
	blocks []named
	cursor int
	stood  int // where the cursor stood at the last commit, or at New, Set, or Grow
}

func newModel(counts []uint16) *model {
	m := &model{}
	for _, n := range counts {
		m.blocks = append(m.blocks, named{int(n), int(n)})
	}
	return m
}

// round are the blocks from the cursor on, round.
func (m *model) round() []int {
	var l []int
	for i := m.cursor; i < len(m.blocks); i++ {
		l = append(l, i)
	}
	for i := 0; i < m.cursor; i++ {
		l = append(l, i)
	}
	return l
}

func (m *model) alloc() (int, api.Errno) {
	for _, i := range m.round() {
		if m.blocks[i] != (named{}) {
			continue
		}
		m.blocks[i].now = 1
		m.cursor = i + 1
		if m.cursor == len(m.blocks) {
			m.cursor = 0
		}
		return i, api.OK
	}
	return 0, api.ErrFull
}

func (m *model) has(n int) bool { return n >= 0 && n < len(m.blocks) }

func (m *model) inc(n int) api.Errno {
	switch {
	case !m.has(n):
		return api.ErrArg
	case m.blocks[n].now == 65535:
		return api.ErrFull
	case m.blocks[n].now == 0:
		return api.ErrState
	}
	m.blocks[n].now++
	return api.OK
}

func (m *model) dec(n int) (uint16, api.Errno) {
	switch {
	case !m.has(n):
		return 0, api.ErrArg
	case m.blocks[n].now == 0:
		return 0, api.ErrState
	}
	m.blocks[n].now--
	return uint16(m.blocks[n].now), api.OK
}

func (m *model) set(cursor int) api.Errno {
	if !m.has(cursor) {
		return api.ErrArg
	}
	m.cursor, m.stood = cursor, cursor
	return api.OK
}

func (m *model) commit() {
	for i, b := range m.blocks {
		m.blocks[i].was = b.now
	}
	m.stood = m.cursor
}

func (m *model) abort() {
	for i, b := range m.blocks {
		m.blocks[i].now = b.was
	}
	m.cursor = m.stood
}

func (m *model) grow(n int) api.Errno {
	if n < len(m.blocks) || n > 1000 {
		return api.ErrArg
	}
	for len(m.blocks) < n {
		m.blocks = append(m.blocks, named{})
	}
	m.stood = m.cursor
	return api.OK
}

func (m *model) copy() *model {
	c := *m
	c.blocks = append([]named(nil), m.blocks...)
	return &c
}

// looks tells what an area should tell of itself.
func (m *model) looks() looks {
	l := looks{Len: len(m.blocks), Cursor: m.cursor}
	for _, b := range m.blocks {
		l.Now = append(l.Now, uint16(b.now))
		l.Was = append(l.Was, uint16(b.was))
		if b.now == 0 && b.was == 0 {
			l.Free++
		}
	}
	return l
}

// pair is an area, and what the words make of it.
type pair struct {
	a *count.Area
	m *model
}

func (p pair) check(t *testing.T, act string) {
	t.Helper()
	if got, should := looksOf(t, p.a), p.m.looks(); !reflect.DeepEqual(got, should) {
		t.Fatalf("%s: %+v; want %+v", act, got, should)
	}
}

// do does one act with both, told by two bytes.
func (p pair) do(t *testing.T, act, n byte) {
	t.Helper()
	at := int(n)%(len(p.m.blocks)+2) - 1
	var e, should api.Errno
	var got, want int
	switch act % 12 {
	case 0, 1, 2:
		got, e = p.a.Alloc()
		want, should = p.m.alloc()
	case 3, 4:
		e, should = p.a.Inc(at), p.m.inc(at)
	case 5, 6, 7:
		var l, r uint16
		l, e = p.a.Dec(at)
		r, should = p.m.dec(at)
		got, want = int(l), int(r)
	case 8:
		e, should = p.a.Set(at), p.m.set(at)
	case 9:
		p.a.Commit()
		p.m.commit()
	case 10:
		p.a.Abort()
		p.m.abort()
	case 11:
		to := len(p.m.blocks) + int(n)%4 - 1
		e, should = p.a.Grow(to), p.m.grow(to)
	}
	if e != should || got != want {
		t.Fatalf("act %d (%d): %d, %v; want %d, %v", act%12, n, got, e, want, should)
	}
}

// some are counts, of which many are 0, and some are at the edges.
func some(r *rand.Rand, n int) []uint16 {
	l := make([]uint16, n)
	for i := range l {
		l[i] = []uint16{0, 0, 0, 1, 2, 3, 65534, 65535}[r.Intn(8)]
	}
	return l
}

// P6.1 to P6.3: whatever is done, in whatever order, to areas that are copied meanwhile.
func TestAsTheWordsTellIt(t *testing.T) {
	r := rand.New(rand.NewSource(6))
	for range 200 {
		counts := some(r, 1+r.Intn(9))
		pairs := []pair{{made(t, counts...), newModel(counts)}}
		for range 150 {
			p := pairs[r.Intn(len(pairs))]
			if r.Intn(20) == 0 && len(pairs) < 4 {
				pairs = append(pairs, pair{p.a.Copy(), p.m.copy()})
			}
			p.do(t, byte(r.Intn(256)), byte(r.Intn(256)))
			for _, p := range pairs {
				p.check(t, "of several")
			}
		}
	}
}

// The greatest areas, too, and those that come to be so.
func TestGreatAreasAsTheWordsTellIt(t *testing.T) {
	r := rand.New(rand.NewSource(7))
	for _, n := range []int{995, 999, 1000} {
		counts := some(r, n)
		p := pair{made(t, counts...), newModel(counts)}
		for range 3000 {
			p.do(t, byte(r.Intn(256)), byte(r.Intn(256)))
			if n := r.Intn(n); r.Intn(4) == 0 {
				should(t, "Set", p.a.Set(n), p.m.set(n))
			}
		}
		p.check(t, "behind all")
	}
}

// P0.6

func FuzzCount(f *testing.F) {
	f.Add([]byte{1, 0, 0}, []byte{0, 0, 1, 0, 2, 0, 5, 2, 0, 0})
	f.Add([]byte{0}, []byte{0, 0, 11, 3, 0, 0, 9, 0, 0, 0, 10, 0})
	f.Add([]byte{255, 0, 254}, []byte{3, 1, 4, 3, 8, 3, 0, 0, 10, 0, 5, 1})
	f.Add([]byte{}, []byte{})
	f.Fuzz(func(t *testing.T, bytes, acts []byte) {
		counts := make([]uint16, len(bytes))
		for i, b := range bytes {
			counts[i] = uint16(b) * 257
		}
		a, e := count.New(counts...)
		if may := len(counts) >= 1 && len(counts) <= 1000; may != (e == api.OK) || may != (a != nil) {
			t.Fatalf("New of %d counts: %v, %v", len(counts), a, e)
		}
		if a == nil || len(acts) > 400 {
			return
		}
		p := pair{a, newModel(counts)}
		for k := 0; k+1 < len(acts); k += 2 {
			p.do(t, acts[k], acts[k+1])
		}
		p.check(t, "behind all")
	})
}
