package tree_test

import (
	"bytes"
	"math"
	"math/rand"
	"slices"
	"testing"

	"probity/api"
	"probity/tree"
)

// P10.5: CheckPath accepts Path, and CheckGrowth accepts Growth, with the roots that Root returns.
func TestProofsAreAccepted(t *testing.T) {
	r := rand.New(rand.NewSource(1051))
	for size := range 66 {
		l := randomList(r, size)
		h := api.Head{Size: size, Root: tree.Root(l)}
		for n := range size + 1 {
			growth, ok := tree.Growth(l, n)
			checkGrowthIs(t, api.Head{Size: n, Root: tree.Root(l[:n])}, h, growth, ok)
			path, ok := tree.Path(l, n)
			checkPathIs(t, h, n, append(l, "")[n], path, ok)
		}
	}
	l := numbered(5000)
	h := api.Head{Size: len(l), Root: tree.Root(l)}
	for _, n := range []int{0, 1, 2047, 2048, 4095, 4096, 4097, 4999} {
		growth, ok := tree.Growth(l, n)
		checkGrowthIs(t, api.Head{Size: n, Root: tree.Root(l[:n])}, h, growth, ok)
		path, ok := tree.Path(l, n)
		checkPathIs(t, h, n, l[n], path, ok)
	}
}

// P10.5: no other string is accepted at a number, with any path that occurs in the list or its beginnings, not even the hashes of which nodes are made.
func TestNoOtherStringIsAccepted(t *testing.T) {
	l := numbered(9)
	strange, paths := strangeStrings(l), partsOfPaths(l)
	for size := 1; size <= len(l); size++ {
		h := headOf(l[:size])
		for n := range size {
			for _, path := range paths {
				for _, s := range strange {
					if s != l[n] {
						checkPathIs(t, h, n, s, path, false)
					}
				}
			}
		}
	}
}

// partsOfPaths returns the beginnings and the ends of all paths in a list and its beginnings, each once.
func partsOfPaths(l []string) [][]api.Hash {
	var parts [][]api.Hash
	for size := range len(l) + 1 {
		for n := range size {
			path, _ := tree.Path(l[:size], n)
			for at := range len(path) + 1 {
				parts = append(parts, path[at:], path[:at])
			}
		}
	}
	order := func(a, b []api.Hash) int {
		return slices.CompareFunc(a, b, func(x, y api.Hash) int { return bytes.Compare(x[:], y[:]) })
	}
	slices.SortFunc(parts, order)
	return slices.CompactFunc(parts, slices.Equal)
}

// strangeStrings returns the strings of a list, and others that look like what is hashed for it.
func strangeStrings(l []string) []string {
	strange := append(slices.Clone(l), "", "\x00", "\x01")
	for n := range l {
		leaf, root := textOf(tree.Leaf(l[n])), textOf(tree.Root(l[:n]))
		strange = append(strange, leaf, root)
		path, _ := tree.Path(l, n)
		for _, h := range path[:1] {
			strange = append(strange, leaf+textOf(h), textOf(h)+leaf, "\x01"+leaf+textOf(h), "\x01"+textOf(h)+leaf)
		}
	}
	return strange
}

// P10.5: between lists of which the first is no beginning of the second one, no growth is accepted, of whichever lists it is.
func TestNoOtherListIsAccepted(t *testing.T) {
	base := numbered(9)
	lists := [][]string{base}
	for at := range base {
		other := slices.Clone(base)
		other[at] = "x"
		lists = append(lists, other, slices.Delete(slices.Clone(base), at, at+1), slices.Insert(slices.Clone(base), at, "x"))
	}
	swapped := slices.Clone(base)
	swapped[3], swapped[4] = base[4], base[3]
	lists = append(lists, swapped, []string{textOf(tree.Leaf(base[0])) + textOf(tree.Leaf(base[1])), base[2]})
	proofs := [][]api.Hash{nil}
	for _, l := range lists {
		for m := range l {
			proof, _ := tree.Growth(l, m)
			path, _ := tree.Path(l, m)
			proofs = append(proofs, proof, path)
		}
	}
	for _, l := range lists {
		next := headOf(l)
		for m := 1; m <= len(base); m++ {
			if !slices.Equal(base[:m], l[:min(m, len(l))]) {
				checkNoGrowth(t, headOf(base[:m]), next, proofs)
			}
		}
	}
}

func checkNoGrowth(t *testing.T, old, next api.Head, proofs [][]api.Hash) {
	t.Helper()
	for _, proof := range proofs {
		checkGrowthIs(t, old, next, proof, false)
	}
}

// P10.5: a path has at most 63 hashes, a growth at most 64, and both numbers are reached.
func TestGreatestLengths(t *testing.T) {
	r := rand.New(rand.NewSource(1052))
	leaf := wordLeaf("x")
	for count := range 70 {
		path := randomHashes(r, count)
		for _, n := range []int{0, math.MaxInt / 2, 1<<62 - 1} {
			root, ok := wordPathRoot(math.MaxInt, n, leaf, path)
			checkPathIs(t, api.Head{Size: math.MaxInt, Root: root}, n, "x", path, ok)
			if ok != (count == 63) {
				t.Errorf("a path with %d hashes: %t", count, ok)
			}
		}
		oldRoot, nextRoot, ok := wordGrowthRoots(1<<62-1, math.MaxInt, true, leaf, path)
		checkGrowthIs(t, api.Head{Size: 1<<62 - 1, Root: oldRoot}, api.Head{Size: math.MaxInt, Root: nextRoot}, path, ok)
		if ok != (count == 64) {
			t.Errorf("a growth with %d hashes: %t", count, ok)
		}
	}
}
