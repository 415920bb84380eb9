package btree_test

import (
	"math"
	"slices"
	"testing"

	"voile/api"
	"voile/btree"
	"voile/store"
)

const most = math.MaxUint64

// P9.1

// The example of the chapter.
func TestExample(t *testing.T) {
	_, s := begin(t, 16, 16)
	root, old, had, e := btree.Put(s, 0, api.NodeMap, 5, 9)
	if root == 0 || old != 0 || had || e != api.OK {
		t.Fatalf("Put: %d, %d, %v, errno %d", root, old, had, e)
	}
	if v, is, e := btree.Get(s, root, 5); v != 9 || !is || e != api.OK {
		t.Errorf("Get: %d, %v, errno %d", v, is, e)
	}
	if root, v, is, e := btree.Delete(s, root, 5); root != 0 || v != 9 || !is || e != api.OK {
		t.Errorf("Delete: %d, %d, %v, errno %d", root, v, is, e)
	}
	if m, _ := s.Room(); m != 13 || s.Fresh() != 0 {
		t.Errorf("%d free blocks, %d fresh nodes", m, s.Fresh())
	}
}

func TestEmptyTree(t *testing.T) {
	d, s := begin(t, 16, 8)
	unchanged(t, d, s, "the empty tree", func() {
		for _, key := range []uint64{0, 1, most} {
			if v, is, e := btree.Get(s, 0, key); v != 0 || is || e != api.OK {
				t.Errorf("Get(%d): %d, %v, errno %d", key, v, is, e)
			}
			if root, v, is, e := btree.Delete(s, 0, key); root != 0 || v != 0 || is || e != api.OK {
				t.Errorf("Delete(%d): %d, %d, %v, errno %d", key, root, v, is, e)
			}
			if l, e := btree.All(s, 0, key); len(l) != 0 || e != api.OK {
				t.Errorf("All(%d): %v, errno %d", key, l, e)
			}
		}
		if l, e := btree.Nodes(s, 0); len(l) != 0 || e != api.OK {
			t.Errorf("Nodes: %v, errno %d", l, e)
		}
		must(t, btree.Check(s, 0, api.NodeMap))
		must(t, btree.Check(s, 0, api.NodeTop))
	})
}

// has holds that a key has a value, or none.
func has(t testing.TB, s *store.Store, root uint32, key, want uint64, is bool) {
	t.Helper()
	if v, got, e := btree.Get(s, root, key); v != want || got != is || e != api.OK {
		t.Errorf("Get(%d): %d, %v, errno %d; want %d, %v", key, v, got, e, want, is)
	}
}

// A leaf that is the root has 1 to 6 keys, wherever they are put.
func TestLeafThatIsTheRoot(t *testing.T) {
	_, s := begin(t, 16, 8)
	first := top(t, s, 0, 50)
	root := first
	for i, key := range []uint64{10, 90, 0, 70, most} {
		shaped(t, s, root, []string{"(50)", "(10 50)", "(10 50 90)", "(0 10 50 90)", "(0 10 50 70 90)"}[i])
		has(t, s, root, key, 0, false)
		root = top(t, s, root, key)
		has(t, s, root, key, small(key), true)
		must(t, btree.Check(s, root, api.NodeTop))
	}
	shaped(t, s, root, "(0 10 50 70 90 18446744073709551615)")
	// A fresh node that is named once is its own shadow.
	if root != first || s.Fresh() != 1 {
		t.Errorf("root %d, and %d fresh nodes; want %d, and 1", root, s.Fresh(), first)
	}
	for _, key := range []uint64{1, 9, 11, 49, 51, 69, 89, 91, most - 1} {
		has(t, s, root, key, 0, false)
	}
}

// The seventh key splits a node: 3 stay, 4 are a new node's.
func TestSplitOfTheRoot(t *testing.T) {
	for key, want := range map[uint64]string{
		5:  "(5:(5 10 20) 30:(30 40 50 60))",
		15: "(10:(10 15 20) 30:(30 40 50 60))",
		35: "(10:(10 20 30) 35:(35 40 50 60))",
		65: "(10:(10 20 30) 40:(40 50 60 65))",
	} {
		_, s := begin(t, 16, 8)
		root := tops(t, s, row(10, 60, 10)...)
		was := root
		root = top(t, s, root, key)
		shaped(t, s, root, want)
		must(t, btree.Check(s, root, api.NodeTop))
		// What was the root is the left node; the right one, and the root, are new.
		if l := nodes(t, s, root); len(l) != 3 || l[1] != was || l[0] == was || s.Fresh() != 3 {
			t.Errorf("%d: nodes %v of the root %d; %d are fresh", key, l, was, s.Fresh())
		}
		for _, n := range nodes(t, s, root) {
			if x, e := s.Node(n); e != api.OK || x.Birth != 2 || s.Count(n) != 1 {
				t.Errorf("%d: node %d: %v, errno %d, named %d times", key, n, x, e, s.Count(n))
			}
		}
	}
}

// A full inner root is split likewise.
func TestSplitOfAnInnerRoot(t *testing.T) {
	_, s := begin(t, 32, 8)
	root := tops(t, s, row(1, 21, 1)...)
	shaped(t, s, root, "(1:(1 2 3) 4:(4 5 6) 7:(7 8 9) 10:(10 11 12) 13:(13 14 15) 16:(16 17 18 19 20 21))")
	root = top(t, s, root, 22)
	shaped(t, s, root, "(1:(1:(1 2 3) 4:(4 5 6) 7:(7 8 9)) 10:(10:(10 11 12) 13:(13 14 15) 16:(16 17 18) 19:(19 20 21 22)))")
	must(t, btree.Check(s, root, api.NodeTop))
	// A key below all goes into the first leaf; the keys of all above it are its own then.
	root = top(t, s, root, 0)
	shaped(t, s, root, "(0:(0:(0 1 2 3) 4:(4 5 6) 7:(7 8 9)) 10:(10:(10 11 12) 13:(13 14 15) 16:(16 17 18) 19:(19 20 21 22)))")
	root = top(t, s, root, most)
	shaped(t, s, root, "(0:(0:(0 1 2 3) 4:(4 5 6) 7:(7 8 9)) 10:(10:(10 11 12) 13:(13 14 15) 16:(16 17 18) 19:(19 20 21 22 18446744073709551615)))")
	// A leaf between is split below a node that has room.
	for _, k := range []uint64{100, 101} {
		root = top(t, s, root, k)
	}
	shaped(t, s, root, "(0:(0:(0 1 2 3) 4:(4 5 6) 7:(7 8 9)) 10:(10:(10 11 12) 13:(13 14 15) 16:(16 17 18) 19:(19 20 21) 22:(22 100 101 18446744073709551615)))")
	must(t, btree.Check(s, root, api.NodeTop))
	for _, k := range append(row(0, 22, 1), 100, 101, most) {
		has(t, s, root, k, small(k), true)
	}
	for _, k := range []uint64{23, 99, 102, most - 1} {
		has(t, s, root, k, 0, false)
	}
}

// A key that is put again has the other value; the one that it had comes out.
func TestPutAgain(t *testing.T) {
	for _, many := range []uint64{1, 6, 7, 22, 60} {
		_, s := begin(t, 64, 8)
		root := tops(t, s, row(1, many, 1)...)
		was := shape(t, s, root)
		for _, key := range row(1, many, 1) {
			r, old, had, e := btree.Put(s, root, api.NodeTop, key, 5000+key)
			if r != root || old != small(key) || !had || e != api.OK {
				t.Errorf("Put(%d): %d, %d, %v, errno %d", key, r, old, had, e)
			}
			has(t, s, root, key, 5000+key, true)
			r, old, had, e = btree.Put(s, root, api.NodeTop, key, most>>32)
			if r != root || old != 5000+key || !had || e != api.OK {
				t.Errorf("Put(%d): %d, %d, %v, errno %d", key, r, old, had, e)
			}
		}
		shaped(t, s, root, was)
	}
}

// Nodes of a tree of both kinds have that kind, with inner ones above them.
func TestKinds(t *testing.T) {
	for _, kind := range []api.NodeKind{api.NodeMap, api.NodeTop} {
		_, s := begin(t, 64, 64)
		root := uint32(0)
		for key := range uint64(40) {
			var e api.Errno
			root, _, _, e = btree.Put(s, root, kind, key, key)
			must(t, e)
		}
		must(t, btree.Check(s, root, kind))
		should(t, "Check of the other kind", btree.Check(s, root, api.NodeMap+api.NodeTop-kind), api.ErrSound)
		for i, n := range nodes(t, s, root) {
			x, e := s.Node(n)
			must(t, e)
			if leaf := x.Kind == kind; !leaf && x.Kind != api.NodeInner || leaf != (len(nodes(t, s, n)) == 1) || i == 0 && leaf {
				t.Errorf("node %d: %v", n, x)
			}
		}
	}
}

func TestDelete(t *testing.T) {
	for _, x := range []struct {
		what string
		tree limb
		key  uint64
		want string
	}{
		{"the only key", leaf(5), 5, "-"},
		{"of two", leaf(5, 6), 5, "(6)"},
		{"the last of a full leaf", leaf(1, 2, 3, 4, 5, 6), 6, "(1 2 3 4 5)"},
		{"0 and the greatest", leaf(0, 7, most), most, "(0 7)"},
		{"the first of a child", joined(leaf(1, 2, 3, 4), leaf(5, 6, 7)), 1, "(2:(2 3 4) 5:(5 6 7))"},
		{"the first of a child between", joined(leaf(1, 2, 3), leaf(5, 6, 7, 8), leaf(11, 12, 13)), 5, "(1:(1 2 3) 6:(6 7 8) 11:(11 12 13))"},
		{"the last of all", joined(leaf(1, 2, 3), leaf(5, 6, 7, 8)), 8, "(1:(1 2 3) 5:(5 6 7))"},
		{"with the right one, five together", joined(leaf(1, 2, 3), leaf(5, 6, 7), leaf(8, 9, 10)), 2, "(1:(1 3 5 6 7) 8:(8 9 10))"},
		{"with the right one, just six", joined(leaf(1, 2, 3), leaf(5, 6, 7, 8), leaf(9, 10, 11)), 1, "(2:(2 3 5 6 7 8) 9:(9 10 11))"},
		{"with the right one, seven", joined(leaf(1, 2, 3), leaf(5, 6, 7, 8, 9), leaf(10, 11, 12)), 3, "(1:(1 2 5) 6:(6 7 8 9) 10:(10 11 12))"},
		{"with the right one, eight", joined(leaf(1, 2, 3), leaf(5, 6, 7, 8, 9, 10), leaf(11, 12, 13)), 1, "(2:(2 3 5 6) 7:(7 8 9 10) 11:(11 12 13))"},
		{"the one between, with the right one", joined(leaf(1, 2, 3), leaf(5, 6, 7), leaf(8, 9, 10)), 5, "(1:(1 2 3) 6:(6 7 8 9 10))"},
		{"the last one, with the left one", joined(leaf(1, 2, 3), leaf(5, 6, 7), leaf(8, 9, 10)), 8, "(1:(1 2 3) 5:(5 6 7 9 10))"},
		{"the last one, just six", joined(leaf(1, 2, 3), leaf(4, 5, 6, 7), leaf(8, 9, 10)), 10, "(1:(1 2 3) 4:(4 5 6 7 8 9))"},
		{"the last one, seven", joined(leaf(1, 2, 3), leaf(4, 5, 6, 7, 8), leaf(9, 10, 11)), 9, "(1:(1 2 3) 4:(4 5 6) 7:(7 8 10 11))"},
		{"the last one, eight", joined(leaf(1, 2, 3), leaf(4, 5, 6, 7, 8, 9), leaf(10, 11, 12)), 12, "(1:(1 2 3) 4:(4 5 6 7) 8:(8 9 10 11))"},
		{"two, with the right one", joined(leaf(1, 2, 3), leaf(4, 5, 6)), 3, "(1 2 4 5 6)"},
		{"two, with the left one", joined(leaf(1, 2, 3), leaf(4, 5, 6)), 4, "(1 2 3 5 6)"},
		{"two, just six", joined(leaf(1, 2, 3), leaf(4, 5, 6, 7)), 2, "(1 3 4 5 6 7)"},
		{"two, seven", joined(leaf(1, 2, 3), leaf(4, 5, 6, 7, 8)), 2, "(1:(1 3 4) 5:(5 6 7 8))"},
		{"three levels, an inner one is joined too", joined(
			joined(leaf(1, 2, 3), leaf(4, 5, 6), leaf(7, 8, 9)),
			joined(leaf(11, 12, 13), leaf(14, 15, 16), leaf(17, 18, 19))), 5,
			"(1:(1 2 3) 4:(4 6 7 8 9) 11:(11 12 13) 14:(14 15 16) 17:(17 18 19))"},
		{"three levels, inner ones have half", joined(
			joined(leaf(1, 2, 3), leaf(4, 5, 6), leaf(7, 8, 9)),
			joined(leaf(11, 12, 13), leaf(14, 15, 16), leaf(17, 18, 19), leaf(21, 22, 23), leaf(24, 25, 26))), 1,
			"(2:(2:(2 3 4 5 6) 7:(7 8 9) 11:(11 12 13)) 14:(14:(14 15 16) 17:(17 18 19) 21:(21 22 23) 24:(24 25 26)))"},
		{"three levels, the last inner one", joined(
			joined(leaf(1, 2, 3), leaf(4, 5, 6), leaf(7, 8, 9), leaf(11, 12, 13), leaf(14, 15, 16)),
			joined(leaf(17, 18, 19), leaf(21, 22, 23), leaf(24, 25, 26))), 26,
			"(1:(1:(1 2 3) 4:(4 5 6) 7:(7 8 9)) 11:(11:(11 12 13) 14:(14 15 16) 17:(17 18 19) 21:(21 22 23 24 25)))"},
	} {
		for _, committed := range []bool{false, true} {
			_, s := begin(t, 32, 8)
			free, _ := s.Room()
			root := hang(t, s, x.tree)
			must(t, btree.Check(s, root, api.NodeTop))
			if committed {
				commit(t, s, root)
			}
			root, v, is, e := btree.Delete(s, root, x.key)
			if v != small(x.key) || !is || e != api.OK {
				t.Errorf("%s: Delete: %d, %v, errno %d", x.what, v, is, e)
			}
			shaped(t, s, root, x.want)
			must(t, btree.Check(s, root, api.NodeTop))
			l := nodes(t, s, root)
			for _, n := range l {
				if s.Count(n) != 1 {
					t.Errorf("%s: node %d is named %d times", x.what, n, s.Count(n))
				}
			}
			commit(t, s, root)
			if m, _ := s.Room(); m != free-len(l) {
				t.Errorf("%s: %d blocks are free; want %d", x.what, m, free-len(l))
			}
		}
	}
}

// A key that is not there: the root as it is, and nothing is shadowed, nor asked for.
func TestDeleteOfWhatIsNotThere(t *testing.T) {
	d, s := begin(t, 32, 8)
	root := tops(t, s, row(10, 250, 10)...)
	for _, committed := range []bool{false, true} {
		if committed {
			commit(t, s, root)
			must(t, s.Hold(root))
		}
		for s.Count(31) == 0 {
			add(t, s, api.Node{Kind: api.NodeTop})
		}
		unchanged(t, d, s, "Delete of what is not there", func() {
			for _, key := range []uint64{0, 9, 11, 35, 39, 41, 119, 245, 251, most} {
				if r, v, is, e := btree.Delete(s, root, key); r != root || v != 0 || is || e != api.OK {
					t.Errorf("Delete(%d): %d, %d, %v, errno %d; want %d", key, r, v, is, e, root)
				}
			}
		})
		for n := uint32(31); !committed && n > 20; n-- {
			s.Free(n)
		}
	}
}

// Only what stands on the way is shadowed, and what is joined.
func TestWhatIsShadowed(t *testing.T) {
	three := joined(
		joined(leaf(10, 20, 30), leaf(40, 50, 60, 70, 80, 90), leaf(100, 110, 120)),
		joined(leaf(130, 140, 150), leaf(160, 170, 180), leaf(190, 200, 210), leaf(220, 230, 240)))
	for _, x := range []struct {
		what string
		do   func(s *store.Store, root uint32) uint32
		// What comes of the tree's nodes, which are told as Nodes tells them: those that stay; how many are fresh.
		stay  []int
		fresh int
	}{
		{"Put", func(s *store.Store, root uint32) uint32 { return top(t, s, root, 141) }, []int{1, 2, 3, 4, 7, 8, 9}, 3},
		{"Put again", func(s *store.Store, root uint32) uint32 { return top(t, s, root, 240) }, []int{1, 2, 3, 4, 6, 7, 8}, 3},
		{"Put that splits", func(s *store.Store, root uint32) uint32 { return top(t, s, root, 41) }, []int{2, 4, 5, 6, 7, 8, 9}, 4},
		{"Delete", func(s *store.Store, root uint32) uint32 { return take(t, s, root, 60) }, []int{2, 4, 5, 6, 7, 8, 9}, 3},
		{"Delete that joins", func(s *store.Store, root uint32) uint32 { return take(t, s, root, 170) }, []int{1, 2, 3, 4, 6, 9}, 3},
		{"Delete that joins the last one", func(s *store.Store, root uint32) uint32 { return take(t, s, root, 240) }, []int{1, 2, 3, 4, 6, 7}, 3},
		{"Delete that gives half", func(s *store.Store, root uint32) uint32 { return take(t, s, root, 120) }, []int{2, 5, 6, 7, 8, 9}, 4},
		{"Delete that joins twice", func(s *store.Store, root uint32) uint32 {
			root = take(t, s, root, 50)
			root = take(t, s, root, 60)
			root = take(t, s, root, 70)
			return take(t, s, root, 20)
		}, []int{4, 6, 7, 8, 9}, 2},
	} {
		_, s := begin(t, 48, 8)
		root := hang(t, s, three)
		commit(t, s, root)
		was := nodes(t, s, root)
		root = x.do(s, root)
		must(t, btree.Check(s, root, api.NodeTop))
		now := nodes(t, s, root)
		var stay []int
		for i, n := range was {
			if slices.Contains(now, n) {
				stay = append(stay, i)
			} else if s.Count(n) != 0 {
				t.Errorf("%s: node %d is named %d times still", x.what, n, s.Count(n))
			}
		}
		if !slices.Equal(stay, x.stay) || s.Fresh() != x.fresh {
			t.Errorf("%s: %v stay, %d are fresh; want %v, %d", x.what, stay, s.Fresh(), x.stay, x.fresh)
		}
		// Once more: fresh nodes are their own shadows.
		key := uint64(131)
		root = top(t, s, root, key)
		fresh := s.Fresh()
		if r := top(t, s, root, key); r != root || s.Fresh() != fresh {
			t.Errorf("%s: the root %d is shadowed once more, by %d", x.what, root, r)
		}
	}
}

// P9.2

func TestAll(t *testing.T) {
	_, s := begin(t, 64, 8)
	keys := append(row(10, 300, 10), most)
	root := tops(t, s, keys...)
	from := append(row(0, 320, 1), most-1, most)
	for _, f := range from {
		var want []api.Pair
		for _, k := range keys {
			if k >= f {
				want = append(want, api.Pair{Key: k, Val: small(k)})
			}
		}
		if l, e := btree.All(s, root, f); !slices.Equal(l, want) || e != api.OK {
			t.Errorf("All(%d): %v, errno %d; want %v", f, l, e, want)
		}
	}
	root = take(t, s, root, most)
	for _, f := range []uint64{301, 320, most} {
		if l, e := btree.All(s, root, f); len(l) != 0 || e != api.OK {
			t.Errorf("All(%d): %v, errno %d; want none", f, l, e)
		}
	}
	root = tops(t, s, 0, most)
	for f, want := range map[uint64]int{0: 2, 1: 1, most: 1} {
		if l, e := btree.All(s, root, f); len(l) != want || e != api.OK {
			t.Errorf("All(%d): %v, errno %d", f, l, e)
		}
	}
}

func TestNodes(t *testing.T) {
	_, s := begin(t, 64, 8)
	for many := range uint64(80) {
		root := uint32(0)
		if many > 0 {
			root = tops(t, s, row(1, many, 1)...)
		}
		want := nodes(t, s, root)
		if l, e := btree.Nodes(s, root); !slices.Equal(l, want) || e != api.OK {
			t.Errorf("%d keys: %v, errno %d; want %v", many, l, e, want)
		}
		s.Abort()
	}
	// As they stand, each ahead of what stands under it, whatever the numbers are.
	a, b, c := hang(t, s, leaf(7, 8, 9)), hang(t, s, leaf(1, 2, 3)), hang(t, s, leaf(4, 5, 6))
	root := add(t, s, api.Node{Kind: api.NodeInner, Keys: []uint64{1, 4, 7}, Vals: []uint64{uint64(b), uint64(c), uint64(a)}})
	if l, e := btree.Nodes(s, root); !slices.Equal(l, []uint32{root, b, c, a}) || e != api.OK {
		t.Errorf("%v, errno %d", l, e)
	}
}

// A tree that is such as is said, and each that is not.
func TestCheck(t *testing.T) {
	good, wide := leaf(10, 20, 30), leaf(40, 50, 60)
	mapped := limb{kind: api.NodeMap, keys: []uint64{40, 50, 60}}
	three := func(last limb) limb { return joined(leaf(1, 2, 3), leaf(4, 5, 6), last) }
	for _, x := range []struct {
		what string
		tree limb
		want api.Errno
	}{
		{"a leaf of 1", leaf(5), api.OK},
		{"a leaf of 6", leaf(0, 1, 2, 3, 4, most), api.OK},
		{"a leaf of none", leaf(), api.ErrSound},
		{"a leaf of the other kind", mapped, api.ErrSound},
		{"two of 3", joined(good, wide), api.OK},
		{"two of 6", joined(leaf(1, 2, 3, 4, 5, 6), leaf(7, 8, 9, 10, 11, 12)), api.OK},
		{"a root with one child", joined(good), api.ErrSound},
		{"a root with six", joined(leaf(1, 2, 3), leaf(4, 5, 6), leaf(7, 8, 9), leaf(10, 11, 12), leaf(13, 14, 15), leaf(16, 17, 18)), api.OK},
		{"a root without children", inner(nil), api.ErrSound},
		{"a leaf of 2, first", joined(leaf(10, 20), wide), api.ErrSound},
		{"a leaf of 2, last", joined(good, leaf(40, 50)), api.ErrSound},
		{"a leaf of none below", inner([]uint64{10, 40}, good, leaf()), api.ErrSound},
		{"leaves of two kinds", joined(good, mapped), api.ErrSound},
		{"leaves of two kinds, the first", joined(mapped, leaf(70, 80, 90)), api.ErrSound},
		{"keys at most their children's", inner([]uint64{0, 31}, good, wide), api.OK},
		{"a first key above its child's first", inner([]uint64{11, 40}, good, wide), api.ErrSound},
		{"a first key above its child's last", inner([]uint64{31, 40}, good, wide), api.ErrSound},
		{"a key above its child's first", inner([]uint64{10, 41}, good, wide), api.ErrSound},
		{"a key that is the last of the child ahead", inner([]uint64{10, 30}, good, wide), api.ErrSound},
		{"a key below the last of the child ahead", inner([]uint64{10, 25}, good, wide), api.ErrSound},
		{"a key below the last of the child ahead, above the next one's", inner([]uint64{10, 40, 50}, good, leaf(40, 50, 60), leaf(50, 60, 70)), api.ErrSound},
		{"children that change places", inner([]uint64{10, 40}, wide, good), api.ErrSound},
		{"the same child twice", inner([]uint64{10, 40}, good, good), api.ErrSound},
		{"three levels", joined(three(leaf(7, 8, 9)), joined(good, wide, leaf(70, 80, 90))), api.OK},
		{"an inner node of 2", joined(joined(leaf(1, 2, 3), leaf(4, 5, 6)), joined(good, wide, leaf(70, 80, 90))), api.ErrSound},
		{"a last inner node of 2", joined(three(leaf(7, 8, 9)), joined(good, wide)), api.ErrSound},
		{"an inner node of none", inner([]uint64{1, 10}, three(leaf(7, 8, 9)), inner(nil)), api.ErrSound},
		{"leaves that are not equally deep, the last", inner([]uint64{1, 10}, three(leaf(7, 8, 9)), good), api.ErrSound},
		{"leaves that are not equally deep, the first", joined(good, joined(wide, leaf(70, 80, 90), leaf(100, 110, 120))), api.ErrSound},
		{"a leaf two below with a key of the next one's", joined(three(leaf(7, 8, 10)), joined(good, wide, leaf(70, 80, 90))), api.ErrSound},
		{"a leaf two below with a key above the next one's", joined(three(leaf(7, 8, 65)), joined(good, wide, leaf(70, 80, 90))), api.ErrSound},
		{"a leaf two below with a key below all", joined(three(leaf(7, 8, 9)), inner([]uint64{10, 40, 70}, leaf(9, 20, 30), wide, leaf(70, 80, 90))), api.ErrSound},
		{"a leaf of the other kind, three deep", joined(three(leaf(7, 8, 9)), joined(good, mapped, leaf(70, 80, 90))), api.ErrSound},
		{"the greatest keys", joined(leaf(0, 1, 2), leaf(most-2, most-1, most)), api.OK},
	} {
		_, s := begin(t, 32, 8)
		root := hang(t, s, x.tree)
		should(t, x.what, btree.Check(s, root, api.NodeTop), x.want)
		commit(t, s, root)
		should(t, x.what+", committed", btree.Check(s, root, api.NodeTop), x.want)
		for _, kind := range []api.NodeKind{api.NodeInner, 0, 4, -1, math.MaxInt} {
			should(t, x.what+", of no kind that there is", btree.Check(s, root, kind), api.ErrSound)
		}
	}
}

// What is told is the caller's, and changes no tree; nor do looks change anything.
func TestWhatIsToldIsTheCallers(t *testing.T) {
	d, s := begin(t, 64, 8)
	root := tops(t, s, row(1, 60, 1)...)
	for _, committed := range []bool{false, true} {
		if committed {
			commit(t, s, root)
		}
		unchanged(t, d, s, "looks", func() {
			pairs, e := btree.All(s, root, 0)
			must(t, e)
			numbers, e := btree.Nodes(s, root)
			must(t, e)
			again, kept := slices.Clone(pairs), slices.Clone(numbers)
			for i := range pairs {
				pairs[i] = api.Pair{Key: 7, Val: 7}
			}
			for i := range numbers {
				numbers[i] = 7
			}
			pairs, e = btree.All(s, root, 0)
			must(t, e)
			numbers, e = btree.Nodes(s, root)
			must(t, e)
			if !slices.Equal(pairs, again) || !slices.Equal(numbers, kept) {
				t.Error("what is told was changed with what was told ahead of it")
			}
			must(t, btree.Check(s, root, api.NodeTop))
		})
	}
}
