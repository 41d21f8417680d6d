package merkle_test

import (
	"math/rand/v2"
	"slices"
	"testing"

	"minster/api"
	"minster/merkle"
)

// diffByWords goes down from n as the chapter's words say, by nodes that it
// reckons itself.
func diffByWords(a, b []api.Hash, n int) ([]int, int) {
	if nodeByWords(a, n) == nodeByWords(b, n) {
		return nil, 1
	}
	if n >= 64 {
		return []int{n - 64}, 1
	}
	first, early := diffByWords(a, b, 2*n)
	second, late := diffByWords(a, b, 2*n+1)
	return append(first, second...), 1 + early + late
}

// differs wants just these buckets and that many comparisons, whichever of both
// is asked, and both trees as they were.
func differs(t *testing.T, a, b *merkle.Tree, want []int, compared int) {
	t.Helper()
	before := [2][]api.Hash{a.Leaves(), b.Leaves()}
	for range 2 {
		if got, n, code := a.Diff(b); !slices.Equal(got, want) || n != compared || code != api.OK {
			t.Error(got, n, code, "and not", want, compared)
		}
		if a.Same(b) != (len(want) == 0) {
			t.Error("Same", a.Same(b), "and Diff", want)
		}
		a, b = b, a
	}
	if !slices.Equal(a.Leaves(), before[0]) || !slices.Equal(b.Leaves(), before[1]) {
		t.Error("Diff changed a tree")
	}
}

func TestExamples(t *testing.T) {
	tree := merkle.New()
	differs(t, tree, made(t, tree.Leaves()), nil, 1)
	differs(t, tree, tree, nil, 1)
	sets(t, tree, 5, []byte("x"))
	differs(t, tree, merkle.New(), []int{5}, 13)
	if got, code := tree.Node(128); got != (api.Hash{}) || code != api.ErrArg {
		t.Error(got, code)
	}
}

func TestDiffOfOneBucket(t *testing.T) {
	leaves := randomLeaves(rand.New(rand.NewPCG(8, 20)))
	for bucket := range 64 {
		tree := merkle.New()
		sets(t, tree, bucket, []byte{byte(bucket)})
		differs(t, tree, merkle.New(), []int{bucket}, 13)
		tree = made(t, leaves)
		sets(t, tree, bucket, nil)
		differs(t, made(t, leaves), tree, []int{bucket}, 13)
	}
}

func TestDiffOfSeveralBuckets(t *testing.T) {
	all := make([]int, 64)
	for i := range all {
		all[i] = i
	}
	for _, c := range []struct {
		buckets  []int
		compared int
	}{
		{[]int{0, 1}, 13},  // below one node
		{[]int{1, 2}, 15},  // below two that stand below one
		{[]int{0, 63}, 23}, // apart below the root
		{[]int{31, 32}, 23},
		{[]int{0, 1, 2, 3, 4, 5, 6, 7}, 21},
		{all[:32], 65},
		{all[32:], 65},
		{all, 127},
	} {
		tree := merkle.New()
		for _, bucket := range slices.Backward(c.buckets) {
			sets(t, tree, bucket, []byte("x"))
		}
		differs(t, tree, merkle.New(), c.buckets, c.compared)
	}
}

func TestDiffAsTheWordsSay(t *testing.T) {
	g := rand.New(rand.NewPCG(8, 21))
	for range 200 {
		a := randomLeaves(g)
		b := slices.Clone(a)
		var want []int
		for bucket, odds := 0, 1+g.IntN(40); bucket < 64; bucket++ {
			if g.IntN(odds) == 0 {
				b[bucket][g.IntN(32)] ^= 1 << g.IntN(8)
				want = append(want, bucket)
			}
		}
		buckets, compared := diffByWords(a, b, 1)
		if !slices.Equal(buckets, want) {
			t.Fatal(buckets, want)
		}
		differs(t, made(t, a), made(t, b), want, compared)
	}
}

// A leaf at another place is not the same one, nor are two that change places.
func TestDiffGoesByPlaces(t *testing.T) {
	a := randomLeaves(rand.New(rand.NewPCG(8, 22)))
	b := slices.Clone(a)
	b[10], b[40] = b[40], b[10]
	differs(t, made(t, a), made(t, b), []int{10, 40}, 23)
}

func TestDiffIsTheCallers(t *testing.T) {
	tree := merkle.New()
	sets(t, tree, 5, []byte("x"))
	sets(t, tree, 6, []byte("x"))
	first, _, _ := tree.Diff(merkle.New())
	second, _, _ := tree.Diff(merkle.New())
	clear(first)
	if !slices.Equal(second, []int{5, 6}) {
		t.Error(second)
	}
}

func TestDiffAndSameOfNoTree(t *testing.T) {
	tree := merkle.New()
	zeros := made(t, make([]api.Hash, 64))
	none := []*merkle.Tree{nil, {}}
	for _, a := range none {
		for _, b := range append(none, tree, zeros) {
			for _, pair := range [][2]*merkle.Tree{{a, b}, {b, a}} {
				if got, n, code := pair[0].Diff(pair[1]); len(got) != 0 || n != 0 || code != api.ErrNil {
					t.Error(got, n, code)
				}
				if is := b != tree && b != zeros; pair[0].Same(pair[1]) != is {
					t.Error("Same", !is)
				}
			}
		}
	}
}

// A tree whose leaves are all zero is one nevertheless.
func TestTreeOfZeroLeavesIsATree(t *testing.T) {
	zeros := made(t, make([]api.Hash, 64))
	isOf(t, zeros.Copy(), make([]api.Hash, 64))
	differs(t, zeros, made(t, make([]api.Hash, 64)), nil, 1)
	sets(t, zeros, 0, nil)
	differs(t, zeros, made(t, make([]api.Hash, 64)), []int{0}, 13)
}

func TestCopyGoesOnApart(t *testing.T) {
	leaves := randomLeaves(rand.New(rand.NewPCG(8, 23)))
	tree := made(t, leaves)
	twin := tree.Copy()
	isOf(t, twin, leaves)
	differs(t, tree, twin, nil, 1)
	sets(t, twin, 5, []byte("x"))
	isOf(t, tree, leaves)
	differs(t, tree, twin, []int{5}, 13)
	sets(t, tree, 60, []byte("y"))
	differs(t, tree, twin, []int{5, 60}, 23)
	leaves[5] = leafByWords(5, []byte("x"))
	isOf(t, twin, leaves)
}

func TestSameAsksAllLeaves(t *testing.T) {
	leaves := randomLeaves(rand.New(rand.NewPCG(8, 24)))
	for i := range leaves {
		for _, place := range []int{0, 31} {
			other := slices.Clone(leaves)
			other[i][place] ^= 1
			if made(t, leaves).Same(made(t, other)) {
				t.Error(i, place)
			}
		}
	}
	if !made(t, leaves).Same(made(t, leaves)) {
		t.Error("the same leaves")
	}
}

// However a tree came to its buckets' bytes, it is one.
func TestRootHangsOnTheBytesAlone(t *testing.T) {
	g := rand.New(rand.NewPCG(8, 25))
	for range 20 {
		var buckets [64][]byte
		for i := range buckets {
			buckets[i] = random(g, g.IntN(80))
		}
		want := made(t, leavesByWords(buckets))
		for _, tree := range []*merkle.Tree{merkle.New(), made(t, randomLeaves(g))} {
			for range g.IntN(100) {
				sets(t, tree, g.IntN(64), random(g, 20))
			}
			for _, bucket := range g.Perm(64) {
				sets(t, tree, bucket, buckets[bucket])
			}
			differs(t, tree, want, nil, 1)
			if tree.Root() != want.Root() {
				t.Error(tree.Root())
			}
		}
	}
}

// In which bucket bytes are, and where one bucket's end, is in the root, too.
func TestRootTellsBucketsApart(t *testing.T) {
	roots := map[api.Hash]int{}
	for i, buckets := range [][64][]byte{
		{},
		{0: []byte("a"), 1: []byte("b")},
		{0: []byte("b"), 1: []byte("a")},
		{0: []byte("ab")},
		{1: []byte("ab")},
		{63: []byte("ab")},
		{0: []byte("a"), 2: []byte("b")},
		{0: {0}},
		{0: {0, 0}},
		{1: {0}},
	} {
		tree := merkle.New()
		for bucket, b := range buckets {
			sets(t, tree, bucket, b)
		}
		if n, is := roots[tree.Root()]; is {
			t.Error(i, "has the root of", n)
		}
		roots[tree.Root()] = i
	}
}

func TestOfOfLeavesIsTheTree(t *testing.T) {
	g := rand.New(rand.NewPCG(8, 26))
	for range 20 {
		tree := merkle.New()
		for range g.IntN(100) {
			sets(t, tree, g.IntN(64), random(g, g.IntN(100)))
		}
		twin := made(t, tree.Leaves())
		differs(t, tree, twin, nil, 1)
		isOf(t, twin, tree.Leaves())
		if twin.Root() != tree.Root() {
			t.Error(twin.Root())
		}
	}
}
