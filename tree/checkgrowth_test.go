package tree_test

import (
	"math"
	"math/rand"
	"testing"

	"probity/api"
	"probity/digest"
	"probity/tree"
)

// P10.4: from each beginning of a list to all of it, with its growth, and nothing else.
func TestCheckGrowthOfEverySize(t *testing.T) {
	r := rand.New(rand.NewSource(1041))
	for size := range 35 {
		l := numbered(size)
		next := headOf(l)
		for m := range size + 1 {
			old := headOf(l[:m])
			proof := wordGrowth(l, m)
			checkGrowthIs(t, old, next, proof, true)
			checkGrowthIs(t, next, old, proof, m == size)
			checkGrowthIs(t, api.Head{Size: m, Root: flipped(old.Root, r.Intn(256))}, next, proof, false)
			checkGrowthIs(t, old, api.Head{Size: size, Root: flipped(next.Root, r.Intn(256))}, proof, m == 0 && size > 0)
			for at := range proof {
				checkGrowthIs(t, old, next, changed(proof, at, flipped(proof[at], r.Intn(256))), false)
				checkGrowthIs(t, old, next, changed(proof, at, api.Hash{}), false)
			}
			for other := range size + 1 {
				if other != m {
					checkGrowthIs(t, api.Head{Size: other, Root: old.Root}, next, proof, wordCheckGrowth(api.Head{Size: other, Root: old.Root}, next, proof))
					checkGrowthIs(t, headOf(l[:other]), next, proof, wordCheckGrowth(headOf(l[:other]), next, proof))
				}
			}
		}
	}
}

// P10.4: every bit of both roots and of each hash counts.
func TestCheckGrowthOfEveryBit(t *testing.T) {
	l := numbered(13)
	next := headOf(l)
	for _, m := range []int{7, 8, 11} {
		old, proof := headOf(l[:m]), wordGrowth(l, m)
		for bit := range 256 {
			checkGrowthIs(t, api.Head{Size: m, Root: flipped(old.Root, bit)}, next, proof, false)
			checkGrowthIs(t, old, api.Head{Size: 13, Root: flipped(next.Root, bit)}, proof, false)
			for at := range proof {
				checkGrowthIs(t, old, next, changed(proof, at, flipped(proof[at], bit)), false)
			}
		}
	}
}

// P10.4: proofs with too few hashes, or too many.
func TestCheckGrowthOfOtherLengths(t *testing.T) {
	r := rand.New(rand.NewSource(1042))
	for size := range 35 {
		l := numbered(size)
		next := headOf(l)
		for m := range size + 1 {
			old, proof := headOf(l[:m]), wordGrowth(l, m)
			for at := range len(proof) + 1 {
				for _, h := range []api.Hash{randomHash(r), old.Root, next.Root, {}} {
					checkGrowthIs(t, old, next, with(proof, at, h), false)
				}
			}
			for at := range proof {
				checkGrowthIs(t, old, next, without(proof, at), false)
			}
			if len(proof) > 0 {
				checkGrowthIs(t, old, next, nil, false)
			}
			checkGrowthIs(t, old, next, randomHashes(r, 200), false)
			longer := append(proof, randomHash(r))
			checkGrowthIs(t, old, api.Head{Size: size, Root: wordNode(next.Root, longer[len(proof)])}, longer, false)
		}
	}
}

// P10.4: heads of the same size need the same roots, whatever they are, and no hashes.
func TestCheckGrowthOfEqualSizes(t *testing.T) {
	r := rand.New(rand.NewSource(1043))
	for _, size := range []int{0, 1, 2, 3, 8, 1000, 1 << 62, math.MaxInt} {
		for _, root := range []api.Hash{{}, digest.Sum(""), randomHash(r)} {
			h := api.Head{Size: size, Root: root}
			checkGrowthIs(t, h, h, nil, true)
			checkGrowthIs(t, h, h, []api.Hash{}, true)
			checkGrowthIs(t, h, h, []api.Hash{root}, false)
			checkGrowthIs(t, h, h, randomHashes(r, 2), false)
			checkGrowthIs(t, h, api.Head{Size: size, Root: flipped(root, 7)}, nil, false)
			checkGrowthIs(t, h, api.Head{Size: size, Root: flipped(root, 7)}, []api.Hash{root}, false)
		}
	}
}

// P10.4: from no strings on, only the old root counts, and there are no hashes.
func TestCheckGrowthOfEmptyLists(t *testing.T) {
	r := rand.New(rand.NewSource(1044))
	empty := api.Head{Root: digest.Sum("")}
	for _, size := range []int{1, 2, 3, 8, 1000, 1 << 62, math.MaxInt} {
		for _, root := range []api.Hash{{}, digest.Sum(""), randomHash(r)} {
			next := api.Head{Size: size, Root: root}
			checkGrowthIs(t, empty, next, nil, true)
			checkGrowthIs(t, empty, next, []api.Hash{{}}, false)
			checkGrowthIs(t, empty, next, []api.Hash{root}, false)
			checkGrowthIs(t, api.Head{}, next, nil, false)
			checkGrowthIs(t, api.Head{Root: tree.Leaf("")}, next, nil, false)
			checkGrowthIs(t, api.Head{Root: flipped(empty.Root, 0)}, next, nil, false)
			checkGrowthIs(t, next, empty, nil, false)
		}
	}
}

// P10.4: sizes that are negative, or become less, whatever the roots are.
func TestCheckGrowthOfStrangeSizes(t *testing.T) {
	r := rand.New(rand.NewSource(1045))
	strange := []int{math.MinInt, math.MinInt + 1, -1 << 62, -2, -1, 0, 1, 2, 3, 4, 5, 8, 1 << 62, math.MaxInt - 1, math.MaxInt}
	for _, from := range strange {
		for _, to := range strange {
			for _, proof := range [][]api.Hash{nil, randomHashes(r, 1), randomHashes(r, 2), randomHashes(r, 63), randomHashes(r, 64)} {
				for _, root := range []api.Hash{{}, digest.Sum("")} {
					old, next := api.Head{Size: from, Root: root}, api.Head{Size: to, Root: root}
					checkGrowthIs(t, old, next, proof, wordCheckGrowth(old, next, proof))
				}
			}
		}
	}
	for _, size := range []int{-1, -2, math.MinInt} {
		h := api.Head{Size: size, Root: digest.Sum("")}
		checkGrowthIs(t, h, h, nil, false)
		checkGrowthIs(t, h, api.Head{Size: 0, Root: h.Root}, nil, false)
		checkGrowthIs(t, h, api.Head{Size: 5, Root: h.Root}, nil, false)
		checkGrowthIs(t, api.Head{Size: 0, Root: h.Root}, h, nil, false)
	}
}

// P10.4: both roots follow from the proof as the definition of the growth says; what is hashed there plays no part.
func TestCheckGrowthOfAnyHashes(t *testing.T) {
	r := rand.New(rand.NewSource(1046))
	for size := 2; size <= 34; size++ {
		for m := 1; m < size; m++ {
			checkAnyGrowth(t, r, m, size)
		}
	}
	for _, size := range greatSizes(r) {
		for _, m := range []int{1, 2, 3, size / 2, size/2 + 1, size - 2, size - 1, wordHalf(size), wordHalf(size) - 1, wordHalf(size) / 2, 1 + r.Intn(size-1)} {
			checkAnyGrowth(t, r, m, size)
		}
	}
}

// checkAnyGrowth checks the growth from m to size with hashes of no list, and such in which something is wrong.
func checkAnyGrowth(t *testing.T, r *rand.Rand, m, size int) {
	t.Helper()
	old := api.Head{Size: m, Root: randomHash(r)}
	proof := randomHashes(r, growthLength(m, size))
	oldRoot, nextRoot, ok := wordGrowthRoots(m, size, true, old.Root, proof)
	if !ok {
		t.Fatalf("the growth from %d to %d has not %d hashes", m, size, len(proof))
	}
	old.Root = oldRoot
	next := api.Head{Size: size, Root: nextRoot}
	checkGrowthIs(t, old, next, proof, true)
	checkGrowthIs(t, old, next, proof[1:], false)
	checkGrowthIs(t, old, next, proof[:len(proof)-1], false)
	checkGrowthIs(t, old, next, append(proof, api.Hash{}), false)
	checkGrowthIs(t, next, old, proof, false)
	for at := range proof {
		checkGrowthIs(t, old, next, changed(proof, at, flipped(proof[at], r.Intn(256))), false)
	}
	checkGrowthIs(t, api.Head{Size: m, Root: flipped(oldRoot, r.Intn(256))}, next, proof, false)
	checkGrowthIs(t, old, api.Head{Size: size, Root: flipped(nextRoot, r.Intn(256))}, proof, false)
}

// growthLength returns how many hashes a growth has, for 0 < m < size.
func growthLength(m, size int) int {
	length, whole := 0, true
	for m < size {
		k := wordHalf(size)
		if m <= k {
			size = k
		} else {
			size, m, whole = size-k, m-k, false
		}
		length++
	}
	if !whole {
		length++
	}
	return length
}
