package count_test

import (
	"math"
	"reflect"
	"slices"
	"testing"

	"voile/api"
	"voile/count"
)

// looks are all that an area tells of itself.
type looks struct {
	Len, Cursor, Free int
	Now, Was          []uint16
}

// looksOf tells them; what Count tells is held against Counts.
func looksOf(t *testing.T, a *count.Area) looks {
	t.Helper()
	l := looks{Len: a.Len(), Cursor: a.Cursor(), Free: a.Free(), Now: a.Counts()}
	for i := range l.Len {
		if a.Count(i) != l.Now[i] {
			t.Errorf("Count(%d): %d; Counts tells %d", i, a.Count(i), l.Now[i])
		}
		l.Was = append(l.Was, a.Was(i))
	}
	return l
}

// unchanged does what should change nothing: neither what is told, nor what an Abort goes back to.
func unchanged(t *testing.T, a *count.Area, what string, act func()) {
	t.Helper()
	aborted := func() looks {
		c := a.Copy()
		c.Abort()
		return looksOf(t, c)
	}
	was, back := looksOf(t, a), aborted()
	act()
	if l := looksOf(t, a); !reflect.DeepEqual(l, was) {
		t.Errorf("%s: %+v; was %+v", what, l, was)
	}
	if l := aborted(); !reflect.DeepEqual(l, back) {
		t.Errorf("%s, Abort: %+v; was %+v", what, l, back)
	}
}

func made(t *testing.T, counts ...uint16) *count.Area {
	t.Helper()
	a, e := count.New(counts...)
	if a == nil || e != api.OK {
		t.Fatalf("New(%v): %v, %v", counts, a, e)
	}
	return a
}

// should holds what a call answered against what it should.
func should(t *testing.T, call string, got, want api.Errno) {
	t.Helper()
	if got != want {
		t.Errorf("%s: %v; want %v", call, got, want)
	}
}

// allocs allocates just these blocks, in this order.
func allocs(t *testing.T, a *count.Area, blocks ...int) {
	t.Helper()
	for k, block := range blocks {
		if n, e := a.Alloc(); n != block || e != api.OK {
			t.Errorf("Alloc %d of %v: %d, %v", k, blocks, n, e)
		}
	}
}

// full: none is free.
func full(t *testing.T, a *count.Area) {
	t.Helper()
	unchanged(t, a, "Alloc", func() {
		if n, e := a.Alloc(); n != 0 || e != api.ErrFull {
			t.Errorf("Alloc: %d, %v; want ErrFull alone", n, e)
		}
	})
}

func dec(t *testing.T, a *count.Area, n int, left uint16) {
	t.Helper()
	if x, e := a.Dec(n); x != left || e != api.OK {
		t.Errorf("Dec(%d): %d, %v; want %d", n, x, e, left)
	}
}

// noDec: Dec is refused.
func noDec(t *testing.T, a *count.Area, n int, want api.Errno) {
	t.Helper()
	unchanged(t, a, "Dec", func() {
		if x, e := a.Dec(n); x != 0 || e != want {
			t.Errorf("Dec(%d): %d, %v; want %v alone", n, x, e, want)
		}
	})
}

func inc(t *testing.T, a *count.Area, n int) {
	t.Helper()
	should(t, "Inc", a.Inc(n), api.OK)
}

// noInc: Inc is refused.
func noInc(t *testing.T, a *count.Area, n int, want api.Errno) {
	t.Helper()
	unchanged(t, a, "Inc", func() { should(t, "Inc", a.Inc(n), want) })
}

// is holds all that an area tells against what it should.
func is(t *testing.T, a *count.Area, cursor, free int, now, was []uint16) {
	t.Helper()
	want := looks{Len: len(now), Cursor: cursor, Free: free, Now: now, Was: was}
	if l := looksOf(t, a); !reflect.DeepEqual(l, want) {
		t.Errorf("%+v; want %+v", l, want)
	}
}

// outside are numbers of which an area of n blocks has none.
func outside(n int) []int {
	return []int{-1, -2, n, n + 1, -n, 1000, 65536, 1 << 32, math.MaxInt, math.MinInt}
}

// nobody are areas that are none.
func nobody() []*count.Area { return []*count.Area{nil, {}} }

// P6.1

func TestTheChaptersExample(t *testing.T) {
	a := made(t, 1, 0, 0)
	allocs(t, a, 1, 2)
	full(t, a)
	dec(t, a, 1, 0)
	allocs(t, a, 1)
}

func TestNew(t *testing.T) {
	for _, counts := range [][]uint16{{0}, {1}, {65535}, {0, 65535, 1, 0}, {7, 0, 0, 0, 9}, {65534, 65535}} {
		free := 0
		for _, n := range counts {
			if n == 0 {
				free++
			}
		}
		is(t, made(t, counts...), 0, free, counts, counts)
	}
	for _, n := range []int{1, 2, 999, 1000} {
		counts := make([]uint16, n)
		a := made(t, counts...)
		is(t, a, 0, n, counts, counts)
		for i := range counts {
			counts[i] = 65535 - uint16(i)
		}
		is(t, made(t, counts...), 0, 0, counts, counts)
	}
}

func TestNewOfWrongNumbers(t *testing.T) {
	for _, counts := range [][]uint16{nil, {}, make([]uint16, 1001), make([]uint16, 1002), make([]uint16, 2000), make([]uint16, 65537), make([]uint16, 1<<20)} {
		if a, e := count.New(counts...); a != nil || e != api.ErrArg {
			t.Errorf("New of %d counts: %v, %v; want ErrArg alone", len(counts), a, e)
		}
	}
	if a, e := count.New(); a != nil || e != api.ErrArg {
		t.Errorf("New(): %v, %v; want ErrArg alone", a, e)
	}
}

func TestAllocIsTheFirstFreeOneFromTheCursorOnRound(t *testing.T) {
	a := made(t, 0, 2, 0, 0, 1, 0)
	should(t, "Set", a.Set(3), api.OK)
	allocs(t, a, 3)
	is(t, a, 4, 3, []uint16{0, 2, 0, 1, 1, 0}, []uint16{0, 2, 0, 0, 1, 0})
	allocs(t, a, 5)
	is(t, a, 0, 2, []uint16{0, 2, 0, 1, 1, 1}, []uint16{0, 2, 0, 0, 1, 0})
	allocs(t, a, 0)
	is(t, a, 1, 1, []uint16{1, 2, 0, 1, 1, 1}, []uint16{0, 2, 0, 0, 1, 0})
	allocs(t, a, 2)
	is(t, a, 3, 0, []uint16{1, 2, 1, 1, 1, 1}, []uint16{0, 2, 0, 0, 1, 0})
	full(t, a)
}

// From each place of the cursor, of each area in which some are free.
func TestAllocFromEachCursor(t *testing.T) {
	for bits := range 1 << 6 {
		counts := make([]uint16, 6)
		for i := range counts {
			counts[i] = uint16(bits >> i & 1)
		}
		for cursor := range counts {
			var order []int
			for _, i := range append(from(cursor, 6), from(0, cursor)...) {
				if counts[i] == 0 {
					order = append(order, i)
				}
			}
			a := made(t, counts...)
			should(t, "Set", a.Set(cursor), api.OK)
			allocs(t, a, order...)
			full(t, a)
		}
	}
}

// from are the numbers from one up to ahead of another one.
func from(at, to int) []int {
	var l []int
	for ; at < to; at++ {
		l = append(l, at)
	}
	return l
}

func TestAllocAtTheAreasEnd(t *testing.T) {
	a := made(t, 0, 0, 0)
	should(t, "Set", a.Set(2), api.OK)
	allocs(t, a, 2)
	is(t, a, 0, 2, []uint16{0, 0, 1}, []uint16{0, 0, 0})
	allocs(t, a, 0, 1)
	is(t, a, 2, 0, []uint16{1, 1, 1}, []uint16{0, 0, 0})

	a = made(t, 0, 0, 1)
	should(t, "Set", a.Set(2), api.OK)
	allocs(t, a, 0) // the last one is not free: round
	is(t, a, 1, 1, []uint16{1, 0, 1}, []uint16{0, 0, 1})
}

func TestAllocOfOneBlock(t *testing.T) {
	a := made(t, 0)
	allocs(t, a, 0)
	is(t, a, 0, 0, []uint16{1}, []uint16{0})
	full(t, a)
	dec(t, a, 0, 0)
	allocs(t, a, 0)
	a.Commit()
	dec(t, a, 0, 0)
	full(t, a)
	a.Commit()
	allocs(t, a, 0)
	full(t, made(t, 65535))
}

func TestAllocOfAThousandBlocks(t *testing.T) {
	a := made(t, make([]uint16, 1000)...)
	should(t, "Set", a.Set(998), api.OK)
	allocs(t, a, append([]int{998, 999}, from(0, 998)...)...)
	full(t, a)
	if a.Cursor() != 998 {
		t.Errorf("Cursor: %d", a.Cursor())
	}
	dec(t, a, 997, 0)
	allocs(t, a, 997) // the last that is looked at
	dec(t, a, 998, 0)
	allocs(t, a, 998) // the first
}

// A block that is named by none now, but was at the last commit, or the other way round, is not free.
func TestFreeIsNamedByNoneNowAndAtTheLastCommit(t *testing.T) {
	a := made(t, 1, 0, 2)
	dec(t, a, 0, 0)
	dec(t, a, 2, 1)
	dec(t, a, 2, 0)
	is(t, a, 0, 1, []uint16{0, 0, 0}, []uint16{1, 0, 2})
	allocs(t, a, 1)
	is(t, a, 2, 0, []uint16{0, 1, 0}, []uint16{1, 0, 2})
	full(t, a)
	a.Commit()
	is(t, a, 2, 2, []uint16{0, 1, 0}, []uint16{0, 1, 0})
	allocs(t, a, 2, 0)
	full(t, a)
}

func TestIncAndDec(t *testing.T) {
	a := made(t, 1, 65533, 0)
	inc(t, a, 0)
	is(t, a, 0, 1, []uint16{2, 65533, 0}, []uint16{1, 65533, 0})
	inc(t, a, 1)
	inc(t, a, 1)
	is(t, a, 0, 1, []uint16{2, 65535, 0}, []uint16{1, 65533, 0})
	noInc(t, a, 1, api.ErrFull)
	dec(t, a, 1, 65534)
	inc(t, a, 1)
	noInc(t, a, 1, api.ErrFull)
	dec(t, a, 0, 1)
	dec(t, a, 0, 0)
	is(t, a, 0, 1, []uint16{0, 65535, 0}, []uint16{1, 65533, 0})
	allocs(t, a, 2)
	inc(t, a, 2)
	dec(t, a, 2, 1)
	dec(t, a, 2, 0)
	is(t, a, 0, 1, []uint16{0, 65535, 0}, []uint16{1, 65533, 0})
}

func TestIncAndDecUpAndDown(t *testing.T) {
	a := made(t, 0)
	allocs(t, a, 0)
	for n := 2; n <= 65535; n++ {
		inc(t, a, 0)
		if a.Count(0) != uint16(n) {
			t.Fatalf("Count: %d; want %d", a.Count(0), n)
		}
	}
	noInc(t, a, 0, api.ErrFull)
	for n := 65534; n >= 0; n-- {
		dec(t, a, 0, uint16(n))
	}
	noDec(t, a, 0, api.ErrState)
}

// Named by none now: never, no more since the last commit, or no more since it was allocated.
func TestIncAndDecOfWhatNoneNames(t *testing.T) {
	a := made(t, 0, 1, 65535, 0)
	dec(t, a, 1, 0)
	should(t, "Set", a.Set(3), api.OK)
	allocs(t, a, 3)
	dec(t, a, 3, 0)
	for _, n := range []int{0, 1, 3} {
		noInc(t, a, n, api.ErrState)
		noDec(t, a, n, api.ErrState)
	}
	noInc(t, a, 2, api.ErrFull)
	dec(t, a, 2, 65534)
}

func TestIncAndDecOfNoBlock(t *testing.T) {
	for _, counts := range [][]uint16{{0}, {1}, {65535}, {1, 0, 3}} {
		a := made(t, counts...)
		for _, n := range outside(len(counts)) {
			noInc(t, a, n, api.ErrArg)
			noDec(t, a, n, api.ErrArg)
		}
	}
	a := made(t, make([]uint16, 1000)...)
	for _, n := range outside(1000) {
		noInc(t, a, n, api.ErrArg)
		noDec(t, a, n, api.ErrArg)
	}
	noInc(t, a, 999, api.ErrState)
	noDec(t, a, 999, api.ErrState)
}

// P6.2

func TestCountAndWasOfNoBlock(t *testing.T) {
	for _, counts := range [][]uint16{{5}, {5, 6, 7}} {
		a := made(t, counts...)
		inc(t, a, 0)
		for _, n := range outside(len(counts)) {
			if a.Count(n) != 0 || a.Was(n) != 0 {
				t.Errorf("of block %d: Count %d, Was %d; want 0, 0", n, a.Count(n), a.Was(n))
			}
		}
	}
}

func TestLooksChangeNothing(t *testing.T) {
	a := made(t, 2, 0, 65535, 0)
	allocs(t, a, 1)
	dec(t, a, 0, 1)
	for range 3 {
		unchanged(t, a, "looks", func() { is(t, a, 2, 1, []uint16{1, 1, 65535, 0}, []uint16{2, 0, 65535, 0}) })
	}
}

func TestSet(t *testing.T) {
	for _, n := range []int{1, 2, 5, 1000} {
		a := made(t, make([]uint16, n)...)
		for _, cursor := range []int{n - 1, 0, n / 2} {
			should(t, "Set", a.Set(cursor), api.OK)
			if a.Cursor() != cursor || a.Free() != n {
				t.Errorf("Set(%d): the cursor %d, %d free of %d", cursor, a.Cursor(), a.Free(), n)
			}
			for _, wrong := range outside(n) {
				unchanged(t, a, "Set", func() { should(t, "Set", a.Set(wrong), api.ErrArg) })
			}
		}
	}
}

// The cursor may stand at a block that is named.
func TestSetAtABlockThatIsNamed(t *testing.T) {
	a := made(t, 3, 65535)
	for _, cursor := range []int{1, 0} {
		should(t, "Set", a.Set(cursor), api.OK)
		is(t, a, cursor, 0, []uint16{3, 65535}, []uint16{3, 65535})
	}
}

func TestCopyGoesOnApart(t *testing.T) {
	a := made(t, 1, 0, 0, 7)
	allocs(t, a, 1)
	dec(t, a, 0, 0)
	c := a.Copy()
	is(t, c, 2, 1, []uint16{0, 1, 0, 7}, []uint16{1, 0, 0, 7})

	for what, act := range map[string]func(a *count.Area){
		"Alloc":         func(a *count.Area) { a.Alloc() },
		"Inc":           func(a *count.Area) { a.Inc(3) },
		"Dec":           func(a *count.Area) { a.Dec(3) },
		"Set":           func(a *count.Area) { a.Set(1) },
		"Commit":        func(a *count.Area) { a.Commit() },
		"Abort":         func(a *count.Area) { a.Abort() },
		"Grow":          func(a *count.Area) { a.Grow(9) },
		"Grow, Inc":     func(a *count.Area) { a.Grow(9); a.Inc(3); a.Commit() },
		"Grow, Abort":   func(a *count.Area) { a.Grow(9); a.Abort() },
		"Set, and back": func(a *count.Area) { a.Set(3); a.Abort() },
	} {
		elder := a.Copy()
		c := elder.Copy()
		unchanged(t, c, what+" of the elder one", func() { act(elder) })
		unchanged(t, elder, what+" of the copy", func() { act(c) })
	}
}

// A copy goes back to where its elder one would.
func TestCopyAborts(t *testing.T) {
	a := made(t, 1, 0, 0)
	should(t, "Set", a.Set(2), api.OK)
	allocs(t, a, 2, 1)
	c := a.Copy()
	c.Abort()
	is(t, c, 2, 2, []uint16{1, 0, 0}, []uint16{1, 0, 0})
	is(t, a, 2, 0, []uint16{1, 1, 1}, []uint16{1, 0, 0})
}

func TestGrownCopiesShareNothing(t *testing.T) {
	a := made(t, 0, 0, 0)
	should(t, "Grow", a.Grow(4), api.OK)
	c := a.Copy()
	should(t, "Grow", a.Grow(6), api.OK)
	should(t, "Grow", c.Grow(6), api.OK)
	allocs(t, a, 0, 1, 2, 3, 4, 5)
	a.Commit()
	is(t, c, 0, 6, make([]uint16, 6), make([]uint16, 6))
}

func TestWhatIsGivenToNewIsTheCallers(t *testing.T) {
	given := make([]uint16, 4, 9)
	copy(given, []uint16{1, 0, 2, 0})
	a := made(t, given...)
	for i := range given {
		given[i] = 9
	}
	is(t, a, 0, 2, []uint16{1, 0, 2, 0}, []uint16{1, 0, 2, 0})

	copy(given, []uint16{1, 0, 2, 0})
	a = made(t, given...)
	allocs(t, a, 1)
	inc(t, a, 2)
	dec(t, a, 0, 0)
	should(t, "Grow", a.Grow(6), api.OK)
	allocs(t, a, 3, 4)
	a.Commit()
	if want := []uint16{1, 0, 2, 0, 0, 0, 0, 0, 0}; !slices.Equal(given[:9], want) {
		t.Errorf("what was given is %v; was %v", given[:9], want)
	}
}

func TestWhatCountsTellsIsTheCallers(t *testing.T) {
	a := made(t, 1, 0, 2)
	told := a.Counts()
	for i := range told {
		told[i] = 9
	}
	told = append(told, 9)
	is(t, a, 0, 1, []uint16{1, 0, 2}, []uint16{1, 0, 2})
	allocs(t, a, 1)
	a.Commit()
	if !slices.Equal(told, []uint16{9, 9, 9, 9}) {
		t.Errorf("what Counts told is %v", told)
	}
	l, r := a.Counts(), a.Counts()
	l[0] = 7
	if r[0] != 1 {
		t.Error("two lists of Counts share")
	}
}

func TestNobody(t *testing.T) {
	for _, a := range nobody() {
		for _, n := range append(outside(1), 0, 1) {
			should(t, "Inc", a.Inc(n), api.ErrNil)
			should(t, "Set", a.Set(n), api.ErrNil)
			should(t, "Grow", a.Grow(n), api.ErrNil)
			if x, e := a.Dec(n); x != 0 || e != api.ErrNil {
				t.Errorf("Dec: %d, %v; want ErrNil alone", x, e)
			}
			if a.Count(n) != 0 || a.Was(n) != 0 {
				t.Errorf("Count %d, Was %d", a.Count(n), a.Was(n))
			}
		}
		if n, e := a.Alloc(); n != 0 || e != api.ErrNil {
			t.Errorf("Alloc: %d, %v; want ErrNil alone", n, e)
		}
		a.Commit()
		a.Abort()
		if a.Free() != 0 || a.Len() != 0 || a.Cursor() != 0 || len(a.Counts()) != 0 || a.Copy() != nil {
			t.Errorf("%d free of %d, the cursor %d, Counts %v, Copy %v", a.Free(), a.Len(), a.Cursor(), a.Counts(), a.Copy())
		}
	}
}

// P6.3

func TestCommit(t *testing.T) {
	a := made(t, 1, 0, 65535, 0)
	allocs(t, a, 1)
	dec(t, a, 0, 0)
	dec(t, a, 2, 65534)
	a.Commit()
	is(t, a, 2, 2, []uint16{0, 1, 65534, 0}, []uint16{0, 1, 65534, 0})
	unchanged(t, a, "another Commit", a.Commit)
	unchanged(t, a, "an Abort behind it", a.Abort)
	allocs(t, a, 3, 0)
	full(t, a)
}

func TestAbort(t *testing.T) {
	a := made(t, 1, 0, 65535, 0)
	unchanged(t, a, "Abort of what was not changed", a.Abort)
	allocs(t, a, 1, 3)
	inc(t, a, 1)
	dec(t, a, 0, 0)
	dec(t, a, 2, 65534)
	a.Abort()
	is(t, a, 0, 2, []uint16{1, 0, 65535, 0}, []uint16{1, 0, 65535, 0})
	unchanged(t, a, "another Abort", a.Abort)
	allocs(t, a, 1, 3) // they are free again
	full(t, a)
}

// What the words name as a point to go back to, each behind an Alloc; and an Alloc, which is none.
func TestAbortAndTheCursor(t *testing.T) {
	alloc := func(a *count.Area) { a.Alloc() }
	set := func(n int) func(a *count.Area) { return func(a *count.Area) { a.Set(n) } }
	grow := func(n int) func(a *count.Area) { return func(a *count.Area) { a.Grow(n) } }
	commit := func(a *count.Area) { a.Commit() }
	abort := func(a *count.Area) { a.Abort() }
	for what, x := range map[string]struct {
		acts   []func(a *count.Area)
		cursor int
	}{
		"New":                               {nil, 0},
		"Alloc":                             {acts(alloc), 0},
		"Alloc, Alloc":                      {acts(alloc, alloc), 0},
		"Alloc, Commit":                     {acts(alloc, commit), 1},
		"Alloc, Commit, Alloc":              {acts(alloc, commit, alloc), 1},
		"Set":                               {acts(set(3)), 3},
		"Set, Alloc":                        {acts(set(3), alloc), 3},
		"Set at the end, Alloc":             {acts(set(4), alloc), 4},
		"Alloc, Set":                        {acts(alloc, set(3)), 3},
		"Alloc, Set, Alloc":                 {acts(alloc, set(3), alloc), 3},
		"Alloc, Set 0":                      {acts(alloc, alloc, set(0)), 0},
		"Commit, Set":                       {acts(alloc, commit, set(4)), 4},
		"Set, Set":                          {acts(set(3), set(2), alloc), 2},
		"Set, Commit":                       {acts(set(3), commit), 3},
		"Set, Alloc, Commit":                {acts(set(3), alloc, commit), 4},
		"Set at the end, Alloc, Commit":     {acts(set(4), alloc, commit), 0},
		"Grow":                              {acts(grow(7)), 0},
		"Alloc, Grow":                       {acts(alloc, grow(7)), 1},
		"Alloc, Grow, Alloc":                {acts(alloc, grow(7), alloc), 1},
		"Alloc, Grow to just what it has":   {acts(alloc, grow(5), alloc), 1},
		"Alloc, Grow that is refused":       {acts(alloc, grow(4), alloc), 0},
		"Alloc, Grow above":                 {acts(alloc, grow(1001), alloc), 0},
		"Alloc, Set that is refused":        {acts(alloc, set(5), alloc), 0},
		"Alloc, Set below":                  {acts(alloc, set(-1), alloc), 0},
		"Set, Grow, Set to what is new":     {acts(set(3), grow(7), set(6), alloc), 6},
		"Set, Alloc, Grow":                  {acts(set(3), alloc, grow(7)), 4},
		"Set at the end, Alloc, Grow":       {acts(set(4), alloc, grow(7)), 0},
		"Grow, Alloc, Commit":               {acts(grow(7), alloc, commit), 1},
		"Alloc, Abort, Alloc":               {acts(alloc, abort, alloc), 0},
		"Set, Alloc, Abort, Alloc":          {acts(set(3), alloc, abort, alloc), 3},
		"Alloc, Commit, Alloc, Grow, Alloc": {acts(alloc, commit, alloc, grow(6), alloc), 2},
	} {
		a := made(t, make([]uint16, 5)...)
		for _, act := range x.acts {
			act(a)
		}
		size := a.Len()
		a.Abort()
		if a.Cursor() != x.cursor || a.Len() != size {
			t.Errorf("%s, Abort: the cursor %d of %d; want %d of %d", what, a.Cursor(), a.Len(), x.cursor, size)
		}
	}
}

func acts(l ...func(a *count.Area)) []func(a *count.Area) { return l }

func TestGrow(t *testing.T) {
	a := made(t, 1, 0)
	allocs(t, a, 1)
	should(t, "Grow", a.Grow(5), api.OK)
	is(t, a, 0, 3, []uint16{1, 1, 0, 0, 0}, []uint16{1, 0, 0, 0, 0})
	allocs(t, a, 2, 3)
	should(t, "Grow", a.Grow(6), api.OK)
	is(t, a, 4, 2, []uint16{1, 1, 1, 1, 0, 0}, []uint16{1, 0, 0, 0, 0, 0})
	a.Abort()
	is(t, a, 4, 5, []uint16{1, 0, 0, 0, 0, 0}, []uint16{1, 0, 0, 0, 0, 0})
	allocs(t, a, 4, 5, 1, 2, 3)
	full(t, a)
}

// The cursor that went round at the elder end stays at 0.
func TestGrowBehindTheEnd(t *testing.T) {
	a := made(t, 0, 0)
	allocs(t, a, 0, 1)
	full(t, a)
	should(t, "Grow", a.Grow(4), api.OK)
	is(t, a, 0, 2, []uint16{1, 1, 0, 0}, make([]uint16, 4))
	allocs(t, a, 2, 3)
	full(t, a)
}

func TestGrowToJustWhatItHas(t *testing.T) {
	for _, n := range []int{1, 3, 1000} {
		a := made(t, make([]uint16, n)...)
		unchanged(t, a, "Grow", func() { should(t, "Grow", a.Grow(n), api.OK) })
	}
}

func TestGrowToTheMost(t *testing.T) {
	for _, n := range []int{1, 2, 120, 999} {
		a := made(t, make([]uint16, n)...)
		should(t, "Grow", a.Grow(1000), api.OK)
		is(t, a, 0, 1000, make([]uint16, 1000), make([]uint16, 1000))
		should(t, "Set", a.Set(999), api.OK)
		allocs(t, a, 999, 0)
		unchanged(t, a, "Grow", func() { should(t, "Grow", a.Grow(1001), api.ErrArg) })
	}
}

// What is grown is free, whatever stood there in memory that was let go.
func TestGrowOneByOne(t *testing.T) {
	a := made(t, 0)
	allocs(t, a, 0)
	for n := 2; n <= 1000; n++ {
		should(t, "Grow", a.Grow(n), api.OK)
		if a.Len() != n || a.Free() != 1 || a.Count(n-1) != 0 || a.Was(n-1) != 0 {
			t.Fatalf("Grow(%d): %d free of %d", n, a.Free(), a.Len())
		}
		allocs(t, a, n-1)
		if n%3 == 0 {
			a.Commit()
		}
	}
	full(t, a)
}

func TestGrowOfWrongNumbers(t *testing.T) {
	for _, n := range []int{1, 2, 7, 1000} {
		a := made(t, make([]uint16, n)...)
		allocs(t, a, 0)
		for _, wrong := range []int{n - 1, 0, -1, -n, 1001, 1002, 65537, 1<<32 + 1000, math.MaxInt, math.MinInt} {
			unchanged(t, a, "Grow", func() { should(t, "Grow", a.Grow(wrong), api.ErrArg) })
		}
	}
}
