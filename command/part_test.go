package command_test

import (
	"math"
	"testing"

	"voile/api"
	"voile/command"
)

// P13.3

// kinds is which of the types that may come a part is of, asked by assertions with two values.
func kinds(part any) (row, space, size, fork bool) {
	_, row = part.(api.Row)
	_, space = part.(api.Space)
	_, size = part.(int)
	_, fork = part.(api.Fork)
	return
}

func checkRow(t testing.TB, o api.Op, at, count int) {
	t.Helper()
	part := command.Part(o)
	if x, is := part.(api.Row); !is || x != (api.Row{At: at, Count: count}) {
		t.Errorf("Part(%+v): %T %v; want the row %d, %d", o, part, part, at, count)
	}
	if _, space, size, fork := kinds(part); space || size || fork {
		t.Errorf("Part(%+v) is of another type, too: %T", o, part)
	}
}

func checkSpace(t testing.TB, o api.Op, at, count int) {
	t.Helper()
	part := command.Part(o)
	if x, is := part.(api.Space); !is || x != (api.Space{At: at, Count: count}) {
		t.Errorf("Part(%+v): %T %v; want the space %d, %d", o, part, part, at, count)
	}
	if row, _, size, fork := kinds(part); row || size || fork {
		t.Errorf("Part(%+v) is of another type, too: %T", o, part)
	}
}

func checkSize(t testing.TB, o api.Op, want int) {
	t.Helper()
	part := command.Part(o)
	if x, is := part.(int); !is || x != want {
		t.Errorf("Part(%+v): %T %v; want the size %d", o, part, part, want)
	}
	if row, space, _, fork := kinds(part); row || space || fork {
		t.Errorf("Part(%+v) is of another type, too: %T", o, part)
	}
}

func checkFork(t testing.TB, o api.Op, volume, to uint64) {
	t.Helper()
	part := command.Part(o)
	if x, is := part.(api.Fork); !is || x != (api.Fork{Volume: volume, To: to}) {
		t.Errorf("Part(%+v): %T %v; want the fork %d, %d", o, part, part, volume, to)
	}
	if row, space, size, _ := kinds(part); row || space || size {
		t.Errorf("Part(%+v) is of another type, too: %T", o, part)
	}
}

// checkPart holds an operation's part against the chapter's words.
func checkPart(t testing.TB, o api.Op) {
	t.Helper()
	kept := own(o)
	switch o.Kind {
	case 5:
		checkRow(t, o, o.At, len(o.Data)/64)
	case 6, 9:
		checkRow(t, o, o.At, o.Count)
	case 7:
		checkSpace(t, o, o.At, o.Count)
	case 1, 3:
		checkSize(t, o, o.Size)
	case 4:
		checkFork(t, o, o.Volume, o.To)
	default:
		if part := command.Part(o); part != nil {
			t.Errorf("Part(%+v): %T %v; want nil", o, part, part)
		}
	}
	if !alike(o, kept) {
		t.Errorf("Part(%+v): what is handed in is changed: %+v", kept, o)
	}
}

func TestPart(t *testing.T) {
	for _, o := range ordinary() {
		checkPart(t, o)
	}
	checkSize(t, api.Op{Kind: api.OpCreate, Volume: 7, Size: 20}, 20)
	checkSize(t, api.Op{Kind: api.OpCreate, Volume: 7}, 0)
	checkSize(t, api.Op{Kind: api.OpResize, Volume: 7, Size: 256}, 256)
	checkFork(t, api.Op{Kind: api.OpSnap, Volume: 7, To: mostVolume}, 7, mostVolume)
	checkFork(t, api.Op{Kind: api.OpSnap, Volume: mostVolume, To: 1}, mostVolume, 1)
	checkRow(t, api.Op{Kind: api.OpZero, Volume: 7, At: 1 << 20, Count: 1024}, 1<<20, 1024)
	checkRow(t, api.Op{Kind: api.OpRead, Volume: 7, At: 0, Count: 1}, 0, 1)
	checkSpace(t, api.Op{Kind: api.OpDiscard, Volume: 7, At: 3, Count: 9}, 3, 9)
	for n := 1; n <= api.MaxWrite; n++ {
		checkRow(t, api.Op{Kind: api.OpWrite, Volume: 7, At: n, Data: sectors(n, 1)}, n, n)
	}
	for _, o := range edges() {
		checkPart(t, o)
	}
}

// A caller that asserts another type with one value panics.
func TestPartOfAnotherType(t *testing.T) {
	panics := func(f func()) (is bool) {
		defer func() { is = recover() != nil }()
		f()
		return
	}
	for _, o := range ordinary() {
		part := command.Part(o)
		row, space, size, fork := kinds(part)
		for _, x := range []struct {
			is bool
			f  func()
		}{
			{row, func() { _ = part.(api.Row) }},
			{space, func() { _ = part.(api.Space) }},
			{size, func() { _ = part.(int) }},
			{fork, func() { _ = part.(api.Fork) }},
		} {
			if panics(x.f) == x.is {
				t.Errorf("%+v: %T", o, part)
			}
		}
	}
}

// The type is the kind's, whatever else is set, or may not be.
func TestPartOfWhatMayNotBe(t *testing.T) {
	for _, kind := range []api.OpKind{math.MinInt, -9, -1, 0, 1, 2, 3, 4, 5, 6, 7, 8, 9, 10, 11, 257, 1<<32 + 5, math.MaxInt} {
		for _, n := range []int{math.MinInt, -1, 0, 1, 1 << 32, math.MaxInt} {
			for _, bytes := range []int{0, 1, 63, 64, 65, 2047, 2112} {
				checkPart(t, api.Op{Kind: kind, Volume: uint64(n), To: uint64(n) + 1, Size: n, At: n, Count: n, Data: make([]byte, bytes)})
			}
		}
	}
	checkRow(t, api.Op{Kind: api.OpWrite, Count: 5}, 0, 0)
	checkRow(t, api.Op{Kind: api.OpWrite, At: -3, Count: 5, Data: make([]byte, 127)}, -3, 1)
}
