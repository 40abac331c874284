package tree_test

import (
	"math"
	"math/rand"
	"testing"

	"probity/api"
	"probity/tree"
)

// P10.3: each string at its number, with its path, and nothing else.
func TestCheckPathOfEverySize(t *testing.T) {
	r := rand.New(rand.NewSource(1031))
	for size := 1; size <= 34; size++ {
		l := numbered(size)
		h := headOf(l)
		for n := range l {
			path := wordPath(l, n)
			checkPathIs(t, h, n, l[n], path, true)
			checkPathIs(t, h, n, l[n]+"\x00", path, false)
			checkPathIs(t, h, n, "", path, false)
			checkPathIs(t, h, n, "\x00"+l[n], path, false)
			checkPathIs(t, api.Head{Size: size, Root: flipped(h.Root, r.Intn(256))}, n, l[n], path, false)
			checkPathIs(t, api.Head{Size: size}, n, l[n], path, false)
			for other := range l {
				checkPathIs(t, h, other, l[n], path, other == n)
				checkPathIs(t, h, n, l[other], path, other == n)
			}
			for at := range path {
				checkPathIs(t, h, n, l[n], changed(path, at, flipped(path[at], r.Intn(256))), false)
				checkPathIs(t, h, n, l[n], changed(path, at, api.Hash{}), false)
			}
		}
	}
}

// P10.3: every bit of the root and of each hash counts.
func TestCheckPathOfEveryBit(t *testing.T) {
	l := numbered(11)
	h := headOf(l)
	path := wordPath(l, 9)
	for bit := range 256 {
		checkPathIs(t, api.Head{Size: h.Size, Root: flipped(h.Root, bit)}, 9, l[9], path, false)
		for at := range path {
			checkPathIs(t, h, 9, l[9], changed(path, at, flipped(path[at], bit)), false)
		}
	}
}

// P10.3: paths with too few hashes, or too many, also such with which the root would result.
func TestCheckPathOfOtherLengths(t *testing.T) {
	r := rand.New(rand.NewSource(1032))
	for size := 1; size <= 34; size++ {
		l := numbered(size)
		h := headOf(l)
		for n := range l {
			path := wordPath(l, n)
			for at := range len(path) + 1 {
				checkPathIs(t, h, n, l[n], with(path, at, randomHash(r)), false)
				checkPathIs(t, h, n, l[n], with(path, at, h.Root), false)
			}
			for at := range path {
				checkPathIs(t, h, n, l[n], without(path, at), false)
			}
			if len(path) > 0 {
				checkPathIs(t, h, n, l[n], nil, false)
			}
			checkPathIs(t, h, n, l[n], randomHashes(r, 200), false)
			longer := append(path, randomHash(r))
			checkPathIs(t, api.Head{Size: size, Root: wordNode(h.Root, longer[len(path)])}, n, l[n], longer, false)
			checkPathIs(t, api.Head{Size: size, Root: tree.Leaf(l[n])}, n, l[n], nil, size == 1)
		}
	}
}

// P10.3: numbers that are not from 0 to the size minus 1, and sizes of which there is no such number.
func TestCheckPathOfStrangeNumbers(t *testing.T) {
	r := rand.New(rand.NewSource(1033))
	strange := []int{math.MinInt, math.MinInt + 1, -1 << 62, -2, -1, 0, 1, 2, 3, 4, 5, 8, 1 << 62, math.MaxInt - 1, math.MaxInt}
	for _, size := range strange {
		for _, n := range strange {
			for _, path := range [][]api.Hash{nil, randomHashes(r, 1), randomHashes(r, 2), randomHashes(r, 62), randomHashes(r, 63)} {
				for _, root := range []api.Hash{{}, tree.Leaf("a"), tree.Root(nil)} {
					h := api.Head{Size: size, Root: root}
					checkPathIs(t, h, n, "a", path, wordCheckPath(h, n, "a", path))
				}
			}
		}
	}
	leaf := tree.Leaf("a")
	checkPathIs(t, api.Head{Size: 1, Root: leaf}, 0, "a", nil, true)
	checkPathIs(t, api.Head{Size: 1, Root: leaf}, 1, "a", nil, false)
	checkPathIs(t, api.Head{Size: 1, Root: leaf}, -1, "a", nil, false)
	checkPathIs(t, api.Head{Size: 0, Root: leaf}, 0, "a", nil, false)
	checkPathIs(t, api.Head{Size: -1, Root: leaf}, 0, "a", nil, false)
	checkPathIs(t, api.Head{Size: math.MinInt, Root: leaf}, 0, "a", nil, false)
	checkPathIs(t, api.Head{}, 0, "", nil, false)
}

// P10.3: the side on which each hash is put follows from the size and the number, as the definition of the root says; what is hashed there plays no part.
func TestCheckPathOfOtherSizes(t *testing.T) {
	r := rand.New(rand.NewSource(1034))
	accepted := 0
	for size := 1; size <= 20; size++ {
		l := numbered(size)
		h := headOf(l)
		for n := range l {
			path := wordPath(l, n)
			for other := range 24 {
				moved := api.Head{Size: other, Root: h.Root}
				want := wordCheckPath(moved, n, l[n], path)
				checkPathIs(t, moved, n, l[n], path, want)
				if want && other != size {
					accepted++
				}
			}
			hashes := randomHashes(r, len(path))
			root, _ := wordPathRoot(size, n, wordLeaf("x"), hashes)
			checkPathIs(t, api.Head{Size: size, Root: root}, n, "x", hashes, true)
		}
	}
	if accepted == 0 {
		t.Error("no path fits two sizes")
	}
}

// P10.3: sizes of which no list can be kept, up to the greatest one.
func TestCheckPathOfGreatSizes(t *testing.T) {
	r := rand.New(rand.NewSource(1035))
	for _, size := range greatSizes(r) {
		for _, n := range []int{0, 1, size / 2, size/2 + 1, size - 2, size - 1, r.Intn(size)} {
			path := randomHashes(r, pathLength(size, n))
			root, ok := wordPathRoot(size, n, wordLeaf("x"), path)
			if !ok {
				t.Fatalf("the path of %d in %d has not %d hashes", n, size, len(path))
			}
			h := api.Head{Size: size, Root: root}
			checkPathIs(t, h, n, "x", path, true)
			checkPathIs(t, h, n, "y", path, false)
			checkPathIs(t, h, n, "x", path[1:], false)
			checkPathIs(t, h, n, "x", append(path, api.Hash{}), false)
			at := r.Intn(len(path))
			checkPathIs(t, h, n, "x", changed(path, at, flipped(path[at], r.Intn(256))), false)
			checkPathIs(t, h, size, "x", path, false)
			checkPathIs(t, h, -1-n, "x", path, false)
		}
	}
}

// greatSizes returns sizes about the powers of 2, and others.
func greatSizes(r *rand.Rand) []int {
	sizes := []int{math.MaxInt, math.MaxInt - 1, 1 << 62, 1<<62 + 1, 1<<62 - 1, 1<<61 + 1<<40 + 1}
	for shift := 20; shift < 62; shift += 3 {
		sizes = append(sizes, 1<<shift-1, 1<<shift, 1<<shift+1, 1<<shift+r.Intn(1<<shift))
	}
	return sizes
}

// pathLength returns how many halves lie beside the way to a string.
func pathLength(size, n int) int {
	length := 0
	for size > 1 {
		k := wordHalf(size)
		if n < k {
			size = k
		} else {
			size, n = size-k, n-k
		}
		length++
	}
	return length
}
