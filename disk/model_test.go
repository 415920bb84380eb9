package disk_test

import (
	"math/rand"
	"slices"
	"testing"

	"voile/api"
	"voile/disk"
)

// model is a disk just as the chapter's words tell it: of each sector all its versions, the last of which is read.
type model struct {
	versions [][]api.Sector
	steps    int // -1: no fuse
	dead     bool
}

func newModel(sectors int) *model {
	m := &model{steps: -1}
	m.grow(sectors)
	return m
}

func (m *model) grow(sectors int) {
	for len(m.versions) < sectors {
		m.versions = append(m.versions, []api.Sector{{}})
	}
}

func (m *model) step() api.Errno {
	if m.dead || m.steps == 0 {
		m.dead = true
		return api.ErrDead
	}
	if m.steps > 0 {
		m.steps--
	}
	return api.OK
}

func (m *model) read(i int) api.Sector {
	return m.versions[i][len(m.versions[i])-1]
}

func (m *model) write(i int, s api.Sector) api.Errno {
	if i < 0 || i >= len(m.versions) {
		return api.ErrArg
	}
	e := m.step()
	if e == api.OK {
		m.versions[i] = append(m.versions[i], s)
	}
	return e
}

func (m *model) flush() api.Errno {
	e := m.step()
	if e == api.OK {
		for i := range m.versions {
			m.versions[i] = []api.Sector{m.read(i)}
		}
	}
	return e
}

func (m *model) open() []int {
	var l []int
	for i, v := range m.versions {
		if len(v) > 1 {
			l = append(l, i)
		}
	}
	return l
}

func (m *model) crash(picks []int) {
	for k, i := range m.open() {
		place := 0
		if k < len(picks) {
			place = picks[k]
		}
		n := len(m.versions[i])
		for place < 0 {
			place += n
		}
		for place >= n {
			place -= n
		}
		m.versions[i] = []api.Sector{m.versions[i][place]}
	}
	m.steps, m.dead = -1, false
}

func (m *model) copy() *model {
	c := *m
	c.versions = make([][]api.Sector, len(m.versions))
	for i, v := range m.versions {
		c.versions[i] = slices.Clone(v)
	}
	return &c
}

// same: P3.3, of two models.
func (m *model) same(o *model) bool {
	if len(m.versions) != len(o.versions) {
		return false
	}
	for i := range m.versions {
		if m.versions[i][0] != o.versions[i][0] || m.read(i) != o.read(i) {
			return false
		}
	}
	return true
}

// pair is a disk, and what the words make of it.
type pair struct {
	d *disk.Disk
	m *model
}

func (p pair) check(t *testing.T) {
	t.Helper()
	if p.d.Sectors() != len(p.m.versions) || p.d.Dead() != p.m.dead || !slices.Equal(p.d.Open(), p.m.open()) {
		t.Fatalf("%d sectors, dead %v, open %v; want %d, %v, %v", p.d.Sectors(), p.d.Dead(), p.d.Open(), len(p.m.versions), p.m.dead, p.m.open())
	}
	left := p.d.Copy()
	left.Crash(nil)
	for i, v := range p.m.versions {
		if s, e := p.d.Read(i); s != p.m.read(i) || e != api.OK {
			t.Fatalf("Read(%d): %v, %v", i, s, e)
		}
		if s, e := left.Read(i); s != v[0] || e != api.OK {
			t.Fatalf("lasting of %d: %v, %v", i, s, e)
		}
	}
}

// do does one act with both, told by two bytes.
func (p pair) do(t *testing.T, act, n byte) {
	t.Helper()
	sectors := len(p.m.versions)
	var got, should api.Errno
	switch act % 8 {
	case 0, 1, 2, 3:
		i := int(n)%(sectors+2) - 1
		s := api.Sector{0: act, 63: n}
		got, should = p.d.Write(i, s), p.m.write(i, s)
	case 4:
		got, should = p.d.Flush(), p.m.flush()
	case 5:
		picks := make([]int, n%7)
		for k := range picks {
			picks[k] = int(act)/8 + int(n)*(k-2)
		}
		got = p.d.Crash(picks)
		p.m.crash(picks)
	case 6:
		steps := int(n)%12 - 1
		got = p.d.Fuse(steps)
		if should = api.ErrArg; steps >= 0 {
			should, p.m.steps = api.OK, steps
		}
	case 7:
		to := sectors + int(n)%4 - 1
		got = p.d.Grow(to)
		switch {
		case to < sectors:
			should = api.ErrArg
		case p.m.dead:
			should = api.ErrDead
		default:
			p.m.grow(to)
		}
	}
	if got != should {
		t.Fatalf("act %d (%d): %v; want %v", act%8, n, got, should)
	}
}

// P3.1 to P3.3: whatever is done, in whatever order, to disks that are copied meanwhile.
func TestAsTheWordsTellIt(t *testing.T) {
	r := rand.New(rand.NewSource(3))
	for range 150 {
		n := 1 + r.Intn(6)
		pairs := []pair{{made(t, n), newModel(n)}}
		for range 120 {
			p := pairs[r.Intn(len(pairs))]
			if r.Intn(15) == 0 && len(pairs) < 4 {
				pairs = append(pairs, pair{p.d.Copy(), p.m.copy()})
			}
			p.do(t, byte(r.Intn(256)), byte(r.Intn(256)))
			o := pairs[r.Intn(len(pairs))]
			if p.d.Same(o.d) != p.m.same(o.m) {
				t.Fatalf("Same: %v", p.d.Same(o.d))
			}
		}
		for _, p := range pairs {
			p.check(t)
		}
	}
}

// P3.4

func TestWhatWasFlushedLasts(t *testing.T) {
	r := rand.New(rand.NewSource(4))
	for range 200 {
		n := 1 + r.Intn(6)
		p := pair{made(t, n), newModel(n)}
		for range r.Intn(20) {
			p.do(t, byte(r.Intn(4)), byte(r.Intn(256)))
		}
		flush(t, p.d)
		was := p.d.Copy()
		picks := []int{r.Int(), -r.Int(), r.Int()}
		want(t, "Crash", p.d.Crash(picks), api.OK)
		if !p.d.Same(was) {
			t.Fatal("what was flushed did not last")
		}
	}
}

func TestEachSectorIsOneOfItsVersions(t *testing.T) {
	r := rand.New(rand.NewSource(5))
	for range 300 {
		n := 1 + r.Intn(6)
		p := pair{made(t, n), newModel(n)}
		for range r.Intn(40) {
			p.do(t, byte(r.Intn(5)), byte(r.Intn(256)))
		}
		p.d.Fuse(r.Intn(3))
		for range 5 {
			p.d.Write(0, p.m.versions[0][0]) // its versions are what they were, of which one comes again
		}
		picks := make([]int, r.Intn(9))
		for k := range picks {
			picks[k] = int(r.Uint64())
		}
		want(t, "Crash", p.d.Crash(picks), api.OK)
		for i, v := range p.m.versions {
			if s, e := p.d.Read(i); e != api.OK || !slices.Contains(v, s) {
				t.Fatalf("sector %d: %v, %v; its versions were %v", i, s, e, v)
			}
		}
	}
}

// P0.6

func FuzzDisk(f *testing.F) {
	f.Add(3, []byte{0, 1, 4, 0, 1, 1, 6, 2, 0, 2, 4, 0, 7, 3, 5, 6})
	f.Add(1, []byte{6, 1, 4, 0, 7, 2})
	f.Add(-1, []byte{0, 0})
	f.Add(8193, []byte{})
	f.Fuzz(func(t *testing.T, sectors int, acts []byte) {
		d, e := disk.New(sectors)
		if may := sectors >= 1 && sectors <= api.MaxSectors; may != (e == api.OK) || may != (d != nil) {
			t.Fatalf("New(%d): %v, %v", sectors, d, e)
		}
		if d == nil || sectors > 64 || len(acts) > 400 {
			return
		}
		p := pair{d, newModel(sectors)}
		for k := 0; k+1 < len(acts); k += 2 {
			p.do(t, acts[k], acts[k+1])
		}
		p.check(t)
	})
}
