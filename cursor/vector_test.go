package cursor_test

import (
	"math"
	"math/rand/v2"
	"testing"

	"minster/api"
	"minster/cursor"
)

// P10.2

func TestMay(t *testing.T) {
	for _, v := range vectors() {
		if !cursor.May(v) {
			t.Error(v, "may be")
		}
	}
	for _, v := range tooGreat() {
		if cursor.May(v) {
			t.Error(v, "may not be")
		}
	}
	for i := range api.MaxRegions {
		var v api.Vector
		if v[i] = maxCount; !cursor.May(v) {
			t.Error(v, "may be")
		}
		if v[i]++; cursor.May(v) {
			t.Error(v, "may not be")
		}
	}
}

// Bytes takes just the vectors that may be.
func TestMayIsWhatBytesTakes(t *testing.T) {
	g := rand.New(rand.NewPCG(10, 8))
	counts := map[bool]int{}
	for range 3000 {
		v := numbers(g)
		v[g.IntN(16)] = maxCount - 2 + g.Uint64N(5)
		_, code := cursor.Bytes(nil, "a", v)
		may := cursor.May(v)
		if may != (code == api.OK) {
			t.Fatal(v, may, code)
		}
		counts[may]++
	}
	if counts[true] < 100 || counts[false] < 100 {
		t.Error(counts)
	}
}

// some are numbers of which many are the same, or next to one another, or as
// great as they can be.
func some(g *rand.Rand) uint64 {
	switch g.IntN(4) {
	case 0:
		return g.Uint64N(4)
	case 1:
		return maxCount - 1 + g.Uint64N(3)
	case 2:
		return math.MaxUint64 - g.Uint64N(3)
	}
	return g.Uint64() >> g.IntN(64)
}

func TestJoinAndCovers(t *testing.T) {
	g := rand.New(rand.NewPCG(10, 9))
	for range 5000 {
		var a, b, joined api.Vector
		covers := true
		for i := range a {
			a[i] = some(g)
			b[i] = a[i]
			if g.IntN(12) == 0 {
				b[i] = some(g)
			}
			joined[i] = a[i]
			if b[i] > a[i] {
				joined[i], covers = b[i], false
			}
		}
		keptA, keptB := a, b
		if cursor.Join(a, b) != joined || cursor.Join(b, a) != joined || cursor.Covers(a, b) != covers {
			t.Fatal(a, b, cursor.Join(a, b), cursor.Covers(a, b))
		}
		if !cursor.Covers(joined, a) || !cursor.Covers(joined, b) || cursor.Join(a, a) != a {
			t.Fatal(a, b, joined)
		}
		if a != keptA || b != keptB {
			t.Fatal("what was handed in changed")
		}
	}
}

func TestJoinOfEachRegion(t *testing.T) {
	for i := range api.MaxRegions {
		a, b := all(5), api.Vector{}
		b[i] = 6
		want := all(5)
		want[i] = 6
		if got := cursor.Join(a, b); got != want || cursor.Join(b, a) != want {
			t.Error(i, got)
		}
		if cursor.Join(a, api.Vector{}) != a || cursor.Join(api.Vector{}, a) != a {
			t.Error("noughts change", a)
		}
	}
	most := all(math.MaxUint64)
	if cursor.Join(most, all(maxCount)) != most || cursor.Join(all(maxCount), most) != most {
		t.Error("numbers greater than may be")
	}
}

func TestCoversLooksAtEachRegion(t *testing.T) {
	for i := range api.MaxRegions {
		a := all(5)
		less, more := a, a
		less[i]--
		more[i]++
		if !cursor.Covers(a, a) || !cursor.Covers(a, less) || cursor.Covers(a, more) {
			t.Error(i, "of a", cursor.Covers(a, a), cursor.Covers(a, less), cursor.Covers(a, more))
		}
		if cursor.Covers(less, a) || !cursor.Covers(more, a) {
			t.Error(i, "of others", cursor.Covers(less, a), cursor.Covers(more, a))
		}
		less[(i+1)%16]++
		if cursor.Covers(a, less) || cursor.Covers(less, a) {
			t.Error(i, "neither covers the other one")
		}
	}
	most := all(math.MaxUint64)
	if !cursor.Covers(api.Vector{}, api.Vector{}) || !cursor.Covers(most, most) || !cursor.Covers(most, api.Vector{}) || cursor.Covers(api.Vector{}, api.Vector{15: 1}) || cursor.Covers(all(math.MaxUint64-1), most) {
		t.Error("the least and the greatest")
	}
}
