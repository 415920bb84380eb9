package disk_test

import (
	"math"
	"slices"
	"testing"

	"voile/api"
	"voile/disk"
)

// sector is one whose bytes are told by its letter; each byte hangs on its place.
func sector(letter byte) api.Sector {
	var s api.Sector
	for i := range s {
		s[i] = letter + byte(i)
	}
	return s
}

func made(t *testing.T, sectors int) *disk.Disk {
	t.Helper()
	d, e := disk.New(sectors)
	if d == nil || e != api.OK {
		t.Fatalf("New(%d): %v, %v", sectors, d, e)
	}
	return d
}

// want holds what a call answered against what it should.
func want(t *testing.T, call string, got, should api.Errno) {
	t.Helper()
	if got != should {
		t.Errorf("%s: %v; want %v", call, got, should)
	}
}

func write(t *testing.T, d *disk.Disk, i int, letters string) {
	t.Helper()
	for k := range len(letters) {
		want(t, "Write", d.Write(i, sector(letters[k])), api.OK)
	}
}

func flush(t *testing.T, d *disk.Disk) {
	t.Helper()
	want(t, "Flush", d.Flush(), api.OK)
}

func reads(t *testing.T, d *disk.Disk, i int, should api.Sector) {
	t.Helper()
	if s, e := d.Read(i); s != should || e != api.OK {
		t.Errorf("Read(%d): %v, %v; want %v", i, s, e, should)
	}
}

// lasts holds what a loss of power would leave of a sector against what should last.
func lasts(t *testing.T, d *disk.Disk, i int, should api.Sector) {
	t.Helper()
	c := d.Copy()
	want(t, "Crash", c.Crash(nil), api.OK)
	reads(t, c, i, should)
}

func opens(t *testing.T, d *disk.Disk, should ...int) {
	t.Helper()
	if l := d.Open(); !slices.Equal(l, should) {
		t.Errorf("Open: %v; want %v", l, should)
	}
}

// unchanged holds a disk against a copy that was made ahead of what may not have changed it.
func unchanged(t *testing.T, d, was *disk.Disk) {
	t.Helper()
	if !d.Same(was) || d.Dead() != was.Dead() || !slices.Equal(d.Open(), was.Open()) {
		t.Errorf("changed: open %v, was %v; dead %v, was %v; the same %v", d.Open(), was.Open(), d.Dead(), was.Dead(), d.Same(was))
	}
}

// killed is a disk of four sectors: 0 settled as 'a', 1 open as 'b', and dead.
func killed(t *testing.T) *disk.Disk {
	t.Helper()
	d := made(t, 4)
	write(t, d, 0, "a")
	flush(t, d)
	write(t, d, 1, "b")
	want(t, "Fuse(0)", d.Fuse(0), api.OK)
	want(t, "Flush", d.Flush(), api.ErrDead)
	return d
}

// P3.1

func TestNew(t *testing.T) {
	for _, n := range []int{1, 2, 7, 8191, api.MaxSectors} {
		d := made(t, n)
		if d.Sectors() != n || d.Dead() {
			t.Errorf("New(%d): %d sectors, dead %v", n, d.Sectors(), d.Dead())
		}
		opens(t, d)
		for i := range n {
			reads(t, d, i, api.Sector{})
		}
	}
	for _, n := range []int{0, -1, api.MaxSectors + 1, 1 << 32, math.MaxInt, math.MinInt} {
		if d, e := disk.New(n); d != nil || e != api.ErrArg {
			t.Errorf("New(%d): %v, %v; want ErrArg alone", n, d, e)
		}
	}
}

func TestReadIsWhatWasWrittenLast(t *testing.T) {
	for _, n := range []int{1, 5, api.MaxSectors} {
		d := made(t, n)
		for _, i := range []int{n - 1, n / 2, 0} {
			for _, letter := range []byte("xyzx") {
				want(t, "Write", d.Write(i, sector(letter)), api.OK)
				reads(t, d, i, sector(letter))
			}
			lasts(t, d, i, api.Sector{})
		}
		flush(t, d)
		for _, i := range []int{0, n / 2, n - 1} {
			reads(t, d, i, sector('x'))
			lasts(t, d, i, sector('x'))
		}
	}
}

func TestWriteLeavesOtherSectors(t *testing.T) {
	d := made(t, 5)
	for i := range 5 {
		write(t, d, i, string(rune('a'+i)))
	}
	flush(t, d)
	write(t, d, 2, "z")
	for i, letter := range []byte("abzde") {
		reads(t, d, i, sector(letter))
	}
	for i, letter := range []byte("abcde") {
		lasts(t, d, i, sector(letter))
	}
}

func TestSectorThatThereIsNot(t *testing.T) {
	for _, n := range []int{1, 3, api.MaxSectors} {
		d := made(t, n)
		write(t, d, n-1, "x")
		was := d.Copy()
		for _, i := range []int{-1, n, n + 1, 1 << 32, math.MaxInt, math.MinInt} {
			if s, e := d.Read(i); s != (api.Sector{}) || e != api.ErrArg {
				t.Errorf("Read(%d) of %d: %v, %v; want ErrArg alone", i, n, s, e)
			}
			want(t, "Write", d.Write(i, sector('q')), api.ErrArg)
		}
		unchanged(t, d, was)
	}
}

func TestWhatIsHandedInAndAnsweredIsTheCallers(t *testing.T) {
	d := made(t, 2)
	s := sector('x')
	want(t, "Write", d.Write(0, s), api.OK)
	s[0]++
	r, _ := d.Read(0)
	r[1]++
	write(t, d, 1, "y")
	l := d.Open()
	l[0] = 7
	opens(t, d, 0, 1)
	reads(t, d, 0, sector('x'))
	picks := []int{1, -5, 9}
	want(t, "Crash", d.Crash(picks), api.OK)
	if !slices.Equal(picks, []int{1, -5, 9}) {
		t.Errorf("picks: %v", picks)
	}
}

func TestGrow(t *testing.T) {
	d := made(t, 2)
	write(t, d, 0, "a")
	flush(t, d)
	write(t, d, 1, "b")
	for _, n := range []int{2, 3, 3, 9, 4096, api.MaxSectors, api.MaxSectors} {
		old := d.Sectors()
		want(t, "Grow", d.Grow(n), api.OK)
		if d.Sectors() != n {
			t.Errorf("Grow(%d): %d sectors", n, d.Sectors())
		}
		opens(t, d, 1)
		reads(t, d, 0, sector('a'))
		reads(t, d, 1, sector('b'))
		for i := old; i < n; i++ {
			reads(t, d, i, api.Sector{})
		}
	}
	if _, e := d.Read(api.MaxSectors); e != api.ErrArg {
		t.Errorf("Read behind MaxSectors: %v", e)
	}
	lasts(t, d, 0, sector('a'))
	lasts(t, d, 1, api.Sector{})
	write(t, d, api.MaxSectors-1, "c")
	lasts(t, d, api.MaxSectors-1, api.Sector{})
	flush(t, d)
	lasts(t, d, 1, sector('b'))
	lasts(t, d, api.MaxSectors-1, sector('c'))
}

// What Grow brings lasts as noughts ahead of any flush, and stays behind a loss of power.
func TestGrownSectorsLast(t *testing.T) {
	d := made(t, 1)
	want(t, "Grow", d.Grow(3), api.OK)
	opens(t, d)
	want(t, "Crash", d.Crash([]int{1, 1, 1}), api.OK)
	if d.Sectors() != 3 {
		t.Errorf("%d sectors behind a loss of power", d.Sectors())
	}
	other := made(t, 3)
	if !d.Same(other) {
		t.Error("a grown disk is not the same as one that was made so")
	}
}

func TestGrowRefused(t *testing.T) {
	d := made(t, 5)
	write(t, d, 4, "x")
	was := d.Copy()
	for _, n := range []int{4, 1, 0, -1, api.MaxSectors + 1, math.MaxInt, math.MinInt} {
		want(t, "Grow", d.Grow(n), api.ErrArg)
	}
	unchanged(t, d, was)
	if d.Sectors() != 5 {
		t.Errorf("%d sectors", d.Sectors())
	}
}

func TestGrowIsNoStep(t *testing.T) {
	d := made(t, 1)
	want(t, "Fuse", d.Fuse(1), api.OK)
	for n := 1; n < 6; n++ {
		want(t, "Grow", d.Grow(n), api.OK)
	}
	want(t, "Write", d.Write(4, sector('x')), api.OK)
	want(t, "Grow, no step left", d.Grow(7), api.OK)
	if d.Dead() {
		t.Error("dead of a Grow")
	}
	want(t, "Flush", d.Flush(), api.ErrDead)
	want(t, "Grow of a dead one", d.Grow(8), api.ErrDead)
	if d.Sectors() != 7 {
		t.Errorf("%d sectors", d.Sectors())
	}
}

// nobody has no disk, and a zero one.
func nobody() []*disk.Disk { return []*disk.Disk{nil, {}} }

func TestNilAndZero(t *testing.T) {
	for _, d := range nobody() {
		for _, n := range []int{-1, 0, 1, 5, api.MaxSectors + 1, math.MinInt} {
			if s, e := d.Read(n); s != (api.Sector{}) || e != api.ErrNil {
				t.Errorf("Read(%d): %v, %v", n, s, e)
			}
			want(t, "Write", d.Write(n, sector('x')), api.ErrNil)
			want(t, "Grow", d.Grow(n), api.ErrNil)
			want(t, "Fuse", d.Fuse(n), api.ErrNil)
			want(t, "Crash", d.Crash([]int{n}), api.ErrNil)
		}
		want(t, "Flush", d.Flush(), api.ErrNil)
		want(t, "Crash", d.Crash(nil), api.ErrNil)
		if d.Sectors() != 0 || d.Dead() || len(d.Open()) != 0 || d.Copy() != nil {
			t.Errorf("%d sectors, dead %v, open %v, copy %v", d.Sectors(), d.Dead(), d.Open(), d.Copy())
		}
	}
}

// P3.2

func TestFuse(t *testing.T) {
	for steps := range 6 {
		d := made(t, 2)
		want(t, "Fuse", d.Fuse(steps), api.OK)
		for k := range steps {
			if k%2 == 0 {
				write(t, d, 0, string(rune('a'+k)))
			} else {
				flush(t, d)
			}
			if d.Dead() {
				t.Errorf("a fuse of %d: dead behind the step %d", steps, k)
			}
		}
		was := d.Copy()
		want(t, "Write, no step left", d.Write(1, sector('q')), api.ErrDead)
		if !d.Dead() || was.Dead() {
			t.Errorf("a fuse of %d: dead %v, ahead of that step %v", steps, d.Dead(), was.Dead())
		}
		want(t, "Flush, no step left", was.Flush(), api.ErrDead)
		unchanged(t, d, was)
	}
}

func TestFuseOfNought(t *testing.T) {
	d := made(t, 2)
	write(t, d, 0, "x")
	want(t, "Fuse(0)", d.Fuse(0), api.OK)
	if d.Dead() {
		t.Error("dead ahead of a step")
	}
	reads(t, d, 0, sector('x'))
	want(t, "Flush", d.Flush(), api.ErrDead)
	if !d.Dead() {
		t.Error("not dead behind a step that found none left")
	}
	opens(t, d, 0)
	reads(t, d, 0, sector('x'))
	lasts(t, d, 0, api.Sector{})
}

func TestNoFuse(t *testing.T) {
	d := made(t, 1)
	for range 3000 {
		write(t, d, 0, "x")
		flush(t, d)
	}
	if d.Dead() {
		t.Error("dead without a fuse")
	}
}

func TestFuseAnew(t *testing.T) {
	d := made(t, 1)
	for _, steps := range []int{0, 5, math.MaxInt, 2} {
		want(t, "Fuse", d.Fuse(steps), api.OK)
	}
	write(t, d, 0, "x")
	for _, steps := range []int{-1, -2, math.MinInt} {
		want(t, "Fuse below 0", d.Fuse(steps), api.ErrArg)
	}
	flush(t, d)
	want(t, "Flush, no step left", d.Flush(), api.ErrDead)
}

// What is no step, and what is refused ahead of being one, burns nothing of the fuse.
func TestWhatIsNoStep(t *testing.T) {
	d := made(t, 2)
	want(t, "Fuse", d.Fuse(1), api.OK)
	for range 4 {
		_, _ = d.Read(0)
		want(t, "Write", d.Write(2, sector('x')), api.ErrArg)
		want(t, "Write", d.Write(-1, sector('x')), api.ErrArg)
		d.Sectors()
		d.Dead()
		d.Open()
		d.Same(d.Copy())
		want(t, "Write to a copy", d.Copy().Write(0, sector('y')), api.OK)
	}
	write(t, d, 0, "x")
	want(t, "Write of a sector that there is not, no step left", d.Write(2, sector('x')), api.ErrArg)
	if d.Dead() {
		t.Error("dead of what is no step")
	}
	want(t, "Write", d.Write(0, sector('y')), api.ErrDead)
}

func TestDead(t *testing.T) {
	d := killed(t)
	was := d.Copy()
	for range 3 {
		want(t, "Write", d.Write(0, sector('q')), api.ErrDead)
		want(t, "Flush", d.Flush(), api.ErrDead)
		want(t, "Grow", d.Grow(8), api.ErrDead)
		want(t, "Grow by none", d.Grow(4), api.ErrDead)
	}
	unchanged(t, d, was)
	reads(t, d, 0, sector('a'))
	reads(t, d, 1, sector('b'))
	opens(t, d, 1)
	if d.Sectors() != 4 {
		t.Errorf("%d sectors", d.Sectors())
	}
}

// ErrArg stands ahead of ErrDead.
func TestErrorsOfADeadDiskInOrder(t *testing.T) {
	d := killed(t)
	for _, i := range []int{-1, 4, math.MaxInt} {
		want(t, "Write", d.Write(i, sector('q')), api.ErrArg)
		if s, e := d.Read(i); s != (api.Sector{}) || e != api.ErrArg {
			t.Errorf("Read(%d): %v, %v", i, s, e)
		}
	}
	for _, n := range []int{-1, 0, 3, api.MaxSectors + 1} {
		want(t, "Grow", d.Grow(n), api.ErrArg)
	}
	want(t, "Fuse", d.Fuse(-1), api.ErrArg)
}

// A new fuse wakes no dead disk: each step behind the one that found none left is refused till the power goes.
func TestFuseOfADeadDisk(t *testing.T) {
	d := killed(t)
	want(t, "Fuse", d.Fuse(5), api.OK)
	want(t, "Write", d.Write(0, sector('q')), api.ErrDead)
	want(t, "Flush", d.Flush(), api.ErrDead)
	want(t, "Grow", d.Grow(5), api.ErrDead)
	if !d.Dead() {
		t.Error("not dead")
	}
	want(t, "Crash", d.Crash(nil), api.OK)
	for range 20 {
		flush(t, d)
	}
}

func TestOpen(t *testing.T) {
	d := made(t, 10)
	for _, i := range []int{7, 2, 9, 0, 2, 7} {
		write(t, d, i, "x")
	}
	opens(t, d, 0, 2, 7, 9)
	flush(t, d)
	opens(t, d)
	// What is written is what lasts already: it is open all the same.
	write(t, d, 7, "x")
	want(t, "Write of noughts", d.Write(5, api.Sector{}), api.OK)
	opens(t, d, 5, 7)
	want(t, "Crash", d.Crash(nil), api.OK)
	opens(t, d)
}

func TestCrashPicks(t *testing.T) {
	versions := "wxyz" // w is settled, the others are written since
	for pick, place := range map[int]int{0: 0, 1: 1, 2: 2, 3: 3, 4: 0, 5: 1, 11: 3, -1: 3, -2: 2, -3: 1, -4: 0, -5: 3, -8: 0, math.MaxInt: 3, math.MinInt: 0, math.MinInt + 1: 1} {
		d := made(t, 3)
		write(t, d, 1, versions[:1])
		flush(t, d)
		write(t, d, 1, versions[1:])
		want(t, "Crash", d.Crash([]int{pick}), api.OK)
		reads(t, d, 1, sector(versions[place]))
		lasts(t, d, 1, sector(versions[place]))
		reads(t, d, 0, api.Sector{})
		reads(t, d, 2, api.Sector{})
		opens(t, d)
	}
}

// The example of the chapter.
func TestExample(t *testing.T) {
	d := made(t, 1)
	write(t, d, 0, "x")
	flush(t, d)
	write(t, d, 0, "yz")
	want(t, "Crash", d.Crash([]int{1}), api.OK)
	reads(t, d, 0, sector('y'))
}

// Equal versions are versions each.
func TestCrashWithEqualVersions(t *testing.T) {
	for pick, letter := range []byte("axxya") {
		d := made(t, 1)
		write(t, d, 0, "a")
		flush(t, d)
		write(t, d, 0, "xxya")
		want(t, "Crash", d.Crash([]int{pick}), api.OK)
		reads(t, d, 0, sector(letter))
	}
}

func TestCrashOfManySectors(t *testing.T) {
	for _, x := range []struct {
		picks []int
		left  string // of the sectors 1, 4, 6; A is what lasted, the rest was written since
	}{
		{nil, "AAA"},
		{[]int{}, "AAA"},
		{[]int{1}, "bAA"},
		{[]int{0, 2}, "AcA"},
		{[]int{1, 1}, "bbA"},
		{[]int{1, 2, 3}, "bcd"},
		{[]int{1, 2, 3, 1, 1, 1, 9}, "bcd"},
		{[]int{2, 3, 4}, "AAA"},
		{[]int{-1, -1, -1}, "bcd"},
		{[]int{-2, -2, -2}, "Abc"},
		{[]int{3, 5, 6, -7}, "bcc"},
	} {
		d := made(t, 8)
		for i := range 8 {
			write(t, d, i, "A")
		}
		flush(t, d)
		write(t, d, 6, "b")
		write(t, d, 4, "b")
		write(t, d, 6, "c")
		write(t, d, 1, "b")
		write(t, d, 6, "d")
		write(t, d, 4, "c")
		want(t, "Crash", d.Crash(x.picks), api.OK)
		for k, i := range []int{1, 4, 6} {
			reads(t, d, i, sector(x.left[k]))
			lasts(t, d, i, sector(x.left[k]))
		}
		for _, i := range []int{0, 2, 3, 5, 7} {
			reads(t, d, i, sector('A'))
		}
		opens(t, d)
	}
}

func TestCrashEndsFuseAndDeath(t *testing.T) {
	d := killed(t)
	want(t, "Crash", d.Crash([]int{1}), api.OK)
	if d.Dead() {
		t.Error("dead behind a loss of power")
	}
	reads(t, d, 1, sector('b'))
	for range 20 {
		write(t, d, 0, "x")
		flush(t, d)
	}
	want(t, "Grow", d.Grow(9), api.OK)
	want(t, "Fuse", d.Fuse(0), api.OK)
	want(t, "Crash, none open", d.Crash([]int{3, 4}), api.OK)
	flush(t, d)
}

// P3.3

func TestCopyGoesOnApart(t *testing.T) {
	d := made(t, 4)
	write(t, d, 0, "a")
	flush(t, d)
	write(t, d, 1, "bc")
	c := d.Copy()
	unchanged(t, c, d)
	write(t, c, 1, "d")
	write(t, c, 2, "e")
	reads(t, d, 1, sector('c'))
	opens(t, d, 1)
	write(t, d, 1, "f")
	reads(t, c, 1, sector('d'))
	flush(t, c)
	opens(t, d, 1)
	lasts(t, d, 1, api.Sector{})
	want(t, "Grow", c.Grow(6), api.OK)
	want(t, "Fuse", c.Fuse(0), api.OK)
	want(t, "Write", c.Write(0, sector('g')), api.ErrDead)
	if d.Sectors() != 4 || d.Dead() {
		t.Errorf("%d sectors, dead %v", d.Sectors(), d.Dead())
	}
	// Its versions are b, c, f behind what lasts.
	for pick, letter := range map[int]byte{1: 'b', 2: 'c', 3: 'f'} {
		one := d.Copy()
		want(t, "Crash", one.Crash([]int{pick}), api.OK)
		reads(t, one, 1, sector(letter))
	}
	reads(t, c, 1, sector('d'))
}

// However many versions there are, those that come behind a copy are each one's own.
func TestCopiesShareNoVersions(t *testing.T) {
	for n := range 20 {
		d := made(t, 1)
		for range n {
			write(t, d, 0, "v")
		}
		c := d.Copy()
		write(t, d, 0, "x")
		write(t, c, 0, "y")
		for _, one := range []struct {
			d      *disk.Disk
			letter byte
		}{{d, 'x'}, {c, 'y'}} {
			reads(t, one.d, 0, sector(one.letter))
			want(t, "Crash", one.d.Crash([]int{-1}), api.OK)
			reads(t, one.d, 0, sector(one.letter))
		}
	}
}

func TestGrownCopiesShareNothing(t *testing.T) {
	d := made(t, 4)
	c := d.Copy()
	want(t, "Grow", d.Grow(5), api.OK)
	want(t, "Grow", c.Grow(5), api.OK)
	for i := range 5 {
		write(t, d, i, "x")
	}
	flush(t, d)
	for i := range 5 {
		reads(t, c, i, api.Sector{})
	}
}

func TestCopyHasFuseAndDeath(t *testing.T) {
	d := made(t, 1)
	want(t, "Fuse", d.Fuse(2), api.OK)
	write(t, d, 0, "x")
	c := d.Copy()
	write(t, d, 0, "y")
	want(t, "Write", d.Write(0, sector('z')), api.ErrDead)
	flush(t, c)
	want(t, "Flush of the copy", c.Flush(), api.ErrDead)
	dead := c.Copy()
	want(t, "Crash", c.Crash(nil), api.OK)
	if !dead.Dead() || c.Dead() {
		t.Errorf("dead: %v; behind a loss of power %v", dead.Dead(), c.Dead())
	}
	want(t, "Write to a dead copy", dead.Write(0, sector('z')), api.ErrDead)
}

func same(t *testing.T, d, o *disk.Disk, should bool) {
	t.Helper()
	if d.Same(o) != should || o.Same(d) != should {
		t.Errorf("Same: %v, the other way %v; want %v", d.Same(o), o.Same(d), should)
	}
}

func TestSameOfNilAndZero(t *testing.T) {
	for _, d := range nobody() {
		for _, o := range nobody() {
			same(t, d, o, true)
		}
		same(t, d, made(t, 1), false)
	}
}

func TestSame(t *testing.T) {
	d, o := made(t, 3), made(t, 3)
	same(t, d, d, true)
	same(t, d, o, true)
	same(t, d, made(t, 4), false)
	same(t, d, made(t, 2), false)
	write(t, d, 2, "x")
	same(t, d, o, false) // what is read is not
	write(t, o, 2, "x")
	same(t, d, o, true)
	flush(t, o)
	same(t, d, o, false) // what lasts is not
	flush(t, d)
	same(t, d, o, true)
	for at := range api.SectorSize {
		s := sector('x')
		s[at] ^= 128
		c := d.Copy()
		want(t, "Write", c.Write(2, s), api.OK)
		same(t, c, d, false)
		flush(t, c)
		write(t, c, 2, "x")
		same(t, c, d, false)
		flush(t, c)
		same(t, c, d, true)
	}
	c := d.Copy()
	want(t, "Grow", c.Grow(4), api.OK)
	same(t, c, d, false)
}

// Same looks at what is read, and at what lasts: at nothing else.
func TestSameOfAnotherFuseAndOtherVersions(t *testing.T) {
	d := made(t, 2)
	write(t, d, 0, "x")
	flush(t, d)
	c := d.Copy()
	write(t, c, 0, "yzx")
	want(t, "Fuse", c.Fuse(0), api.OK)
	same(t, c, d, true)
	want(t, "Flush", c.Flush(), api.ErrDead)
	same(t, c, d, true)
}
