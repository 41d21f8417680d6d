package merkle_test

import (
	"crypto/sha256"
	"math"
	"math/rand/v2"
	"slices"
	"strings"
	"testing"

	"minster/api"
	"minster/merkle"
	"minster/sha"
)

// wrongBuckets are none: next to the first and the last one, at such as are
// buckets in a byte or in a remainder, and far off.
var wrongBuckets = []int{-1, 64, 65, -64, 128, 255, 256, 256 + 5, 1 << 32, math.MinInt, math.MaxInt}

// leafByWords is a leaf just as the chapter's words say it, with the library's
// hash.
func leafByWords(bucket int, b []byte) api.Hash {
	return sha256.Sum256(append([]byte{0, byte(bucket)}, b...))
}

func leavesByWords(buckets [64][]byte) []api.Hash {
	var l []api.Hash
	for i, b := range buckets {
		l = append(l, leafByWords(i, b))
	}
	return l
}

// nodeByWords is a node of the tree with these leaves, likewise.
func nodeByWords(leaves []api.Hash, n int) api.Hash {
	if n >= 64 {
		return leaves[n-64]
	}
	text := []byte{1}
	for _, below := range []int{2 * n, 2*n + 1} {
		h := nodeByWords(leaves, below)
		text = append(text, h[:]...)
	}
	return sha256.Sum256(text)
}

func random(g *rand.Rand, n int) []byte {
	b := make([]byte, n)
	for i := range b {
		b[i] = byte(g.Uint32())
	}
	return b
}

func randomLeaves(g *rand.Rand) []api.Hash {
	var l []api.Hash
	for range 64 {
		l = append(l, api.Hash(random(g, 32)))
	}
	return l
}

// isOf wants all that a tree tells of its nodes to be as of these leaves.
func isOf(t *testing.T, tree *merkle.Tree, leaves []api.Hash) {
	t.Helper()
	if got := tree.Leaves(); !slices.Equal(got, leaves) {
		t.Error("Leaves", got)
	}
	if got := tree.Root(); got != nodeByWords(leaves, 1) {
		t.Error("Root", got)
	}
	for n := 1; n <= 127; n++ {
		if got, code := tree.Node(n); got != nodeByWords(leaves, n) || code != api.OK {
			t.Error("Node", n, got, code)
		}
	}
}

// made is the tree of these leaves, which must be one's.
func made(t *testing.T, leaves []api.Hash) *merkle.Tree {
	t.Helper()
	tree, code := merkle.Of(leaves)
	if tree == nil || code != api.OK {
		t.Fatal("Of", len(leaves), code)
	}
	return tree
}

func sets(t *testing.T, tree *merkle.Tree, bucket int, b []byte) {
	t.Helper()
	if code := tree.Set(bucket, b); code != api.OK {
		t.Error("Set", bucket, code)
	}
}

func rootIs(t *testing.T, tree *merkle.Tree, text string) {
	t.Helper()
	if got := sha.Text(tree.Root()); got != text {
		t.Error(got, "and not", text)
	}
}

// These roots were reckoned elsewhere.
func TestKnownRoots(t *testing.T) {
	tree := merkle.New()
	rootIs(t, tree, "4433a69f32158463382405ec957c31b8bc89a1f08964b920f6cf53dc13098cb3")
	sets(t, tree, 5, []byte("x"))
	rootIs(t, tree, "bc5bd1a49bf176c59a8990fcc924f655e4460af2f7860956184cc7bfb6dc0455")
	sets(t, tree, 5, nil)
	sets(t, tree, 0, []byte("abc"))
	sets(t, tree, 63, []byte(strings.Repeat("y", 100)))
	rootIs(t, tree, "ce1f1dbeb93d6ae03829c38b2a182e5db1d4117e2562219999953c6f0f4c230d")
	rootIs(t, made(t, make([]api.Hash, 64)), "c6984907d2e534964351393bc85f04374065b63870cc859c68192def090c1017")
	leaf, code := merkle.Leaf(5, []byte("x"))
	if got := sha.Text(leaf); got != "280a5eff027f9c373f6eacbe0033c22bec61dc300a3b65b1bd949e1c40157bbf" || code != api.OK {
		t.Error(got, code)
	}
}

func TestNewIsOfEmptyBuckets(t *testing.T) {
	isOf(t, merkle.New(), leavesByWords([64][]byte{}))
}

func TestNewGoesOnApart(t *testing.T) {
	sets(t, merkle.New(), 5, []byte("x"))
	isOf(t, merkle.New(), leavesByWords([64][]byte{}))
}

func TestOfTakesAnyLeaves(t *testing.T) {
	g := rand.New(rand.NewPCG(8, 1))
	same := slices.Repeat([]api.Hash{{1, 2, 3}}, 64)
	for _, leaves := range [][]api.Hash{randomLeaves(g), randomLeaves(g), same, make([]api.Hash, 64)} {
		isOf(t, made(t, leaves), leaves)
	}
}

func TestOfKeepsAndChangesNothingOfItsLeaves(t *testing.T) {
	l := randomLeaves(rand.New(rand.NewPCG(8, 2)))
	before := slices.Clone(l)
	tree := made(t, l)
	sets(t, tree, 5, []byte("x"))
	if !slices.Equal(l, before) {
		t.Error("Set changed the leaves that were handed in")
	}
	tree = made(t, l)
	clear(l)
	isOf(t, tree, before)
}

func TestOfRefusesOtherLeavesThan64(t *testing.T) {
	l := make([]api.Hash, 200)
	for _, n := range []int{0, 1, 32, 63, 65, 127, 128, 200} {
		if tree, code := merkle.Of(l[:n]); tree != nil || code != api.ErrArg {
			t.Error(n, tree, code)
		}
	}
	if tree, code := merkle.Of(nil); tree != nil || code != api.ErrArg {
		t.Error(tree, code)
	}
}

func TestLeafIsAsTheWordsSay(t *testing.T) {
	g := rand.New(rand.NewPCG(8, 3))
	for bucket := range 64 {
		for _, n := range []int{0, 1, 2, 31, 32, 52, 53, 54, 61, 62, 63, 64, 65, 1000} {
			b := random(g, n)
			before := slices.Clone(b)
			if got, code := merkle.Leaf(bucket, b); got != leafByWords(bucket, before) || code != api.OK {
				t.Error(bucket, n, got, code)
			}
			if !slices.Equal(b, before) {
				t.Error(bucket, n, "the bytes were changed")
			}
		}
	}
}

func TestLeafOfNilAndOfNoBytesIsOne(t *testing.T) {
	a, _ := merkle.Leaf(7, nil)
	b, _ := merkle.Leaf(7, []byte{})
	if a != b || a != leafByWords(7, nil) {
		t.Error(a, b)
	}
}

func TestLeafWritesNothingBehindTheBytes(t *testing.T) {
	room := []byte("abcdef")
	merkle.Leaf(1, room[:2])
	sets(t, merkle.New(), 1, room[:2])
	if string(room) != "abcdef" {
		t.Error(string(room))
	}
}

func TestLeafRefusesABucketThatThereIsNot(t *testing.T) {
	for _, bucket := range wrongBuckets {
		if got, code := merkle.Leaf(bucket, []byte("x")); got != (api.Hash{}) || code != api.ErrArg {
			t.Error(bucket, got, code)
		}
	}
}

func TestSetMakesTheLeafAndAllAboveIt(t *testing.T) {
	g := rand.New(rand.NewPCG(8, 4))
	var buckets [64][]byte
	tree := merkle.New()
	for bucket := range 64 {
		buckets[bucket] = random(g, 1+g.IntN(150))
		sets(t, tree, bucket, buckets[bucket])
		isOf(t, tree, leavesByWords(buckets))
	}
	for range 100 {
		bucket := g.IntN(64)
		buckets[bucket] = random(g, g.IntN(150))
		sets(t, tree, bucket, buckets[bucket])
		isOf(t, tree, leavesByWords(buckets))
	}
	for bucket := range 64 {
		sets(t, tree, bucket, nil)
	}
	isOf(t, tree, leavesByWords([64][]byte{}))
}

func TestSetOfATreeOfLeaves(t *testing.T) {
	leaves := randomLeaves(rand.New(rand.NewPCG(8, 5)))
	tree := made(t, leaves)
	for _, bucket := range []int{63, 0, 31, 32} {
		sets(t, tree, bucket, []byte("x"))
		leaves[bucket] = leafByWords(bucket, []byte("x"))
		isOf(t, tree, leaves)
	}
}

func TestSetKeepsAndChangesNothingOfItsBytes(t *testing.T) {
	tree, b := merkle.New(), []byte("abc")
	sets(t, tree, 9, b)
	if string(b) != "abc" {
		t.Error(string(b))
	}
	b[0] = 'z'
	sets(t, tree, 8, nil)
	isOf(t, tree, leavesByWords([64][]byte{9: []byte("abc")}))
}

func TestSetRefusedChangesNothing(t *testing.T) {
	leaves := randomLeaves(rand.New(rand.NewPCG(8, 6)))
	tree := made(t, leaves)
	for _, bucket := range wrongBuckets {
		if code := tree.Set(bucket, []byte("x")); code != api.ErrArg {
			t.Error(bucket, code)
		}
	}
	isOf(t, tree, leaves)
}

func TestNodeRefusesANodeThatThereIsNot(t *testing.T) {
	tree := made(t, randomLeaves(rand.New(rand.NewPCG(8, 7))))
	for _, n := range []int{0, -1, -127, 128, 129, 255, 256, 257, 1 << 32, 1<<32 + 1, math.MinInt, math.MaxInt} {
		if got, code := tree.Node(n); got != (api.Hash{}) || code != api.ErrArg {
			t.Error(n, got, code)
		}
	}
}

func TestLeavesAreNewMemory(t *testing.T) {
	leaves := randomLeaves(rand.New(rand.NewPCG(8, 8)))
	tree := made(t, leaves)
	first, second := tree.Leaves(), tree.Leaves()
	clear(first)
	if !slices.Equal(second, leaves) {
		t.Error("two answers share their memory")
	}
	isOf(t, tree, leaves)
	sets(t, tree, 5, []byte("x"))
	if !slices.Equal(second, leaves) {
		t.Error("Set changed leaves that were handed out")
	}
}

// A nil tree, and a zero one, is refused ahead of all that is wrong beside it.
func TestNoTree(t *testing.T) {
	for _, tree := range []*merkle.Tree{nil, {}} {
		for _, bucket := range append([]int{0, 5, 63}, wrongBuckets...) {
			if code := tree.Set(bucket, []byte("x")); code != api.ErrNil {
				t.Error("Set", bucket, code)
			}
		}
		for _, n := range []int{-1, 0, 1, 64, 127, 128} {
			if got, code := tree.Node(n); got != (api.Hash{}) || code != api.ErrNil {
				t.Error("Node", n, got, code)
			}
		}
		if got := tree.Root(); got != (api.Hash{}) {
			t.Error("Root", got)
		}
		if got := tree.Leaves(); len(got) != 0 {
			t.Error("Leaves", got)
		}
		if got := tree.Copy(); got != nil {
			t.Error("Copy", got)
		}
	}
}
