package tree_test

import (
	"math"
	"math/rand"
	"testing"

	"probity/api"
	"probity/tree"
)

var letters = []string{"a", "b", "c", "d", "e", "f", "g", "h"}

// letterHashes returns the leaves of the letters a to h, and the nodes of the first pairs.
func letterHashes() (leaves []api.Hash, ab, cd, ef, abcd api.Hash) {
	for _, s := range letters {
		leaves = append(leaves, tree.Leaf(s))
	}
	ab, cd, ef = tree.Node(leaves[0], leaves[1]), tree.Node(leaves[2], leaves[3]), tree.Node(leaves[4], leaves[5])
	return leaves, ab, cd, ef, tree.Node(ab, cd)
}

// P10.2: paths that can be seen at a glance, those of the chapter among them.
func TestPathExamples(t *testing.T) {
	leaf, ab, cd, ef, abcd := letterHashes()
	for _, x := range []struct {
		size, n int
		want    []api.Hash
	}{
		{1, 0, nil},
		{2, 0, []api.Hash{leaf[1]}},
		{2, 1, []api.Hash{leaf[0]}},
		{3, 0, []api.Hash{leaf[1], leaf[2]}},
		{3, 1, []api.Hash{leaf[0], leaf[2]}},
		{3, 2, []api.Hash{ab}},
		{4, 0, []api.Hash{leaf[1], cd}},
		{4, 3, []api.Hash{leaf[2], ab}},
		{5, 4, []api.Hash{abcd}},
		{5, 2, []api.Hash{leaf[3], ab, leaf[4]}},
		{6, 3, []api.Hash{leaf[2], ab, ef}},
		{7, 6, []api.Hash{ef, abcd}},
		{7, 5, []api.Hash{leaf[4], leaf[6], abcd}},
	} {
		path, ok := tree.Path(letters[:x.size], x.n)
		checkHashes(t, "Path", path, ok, x.want)
	}
}

// P10.2: growths that can be seen at a glance, those of the chapter among them.
func TestGrowthExamples(t *testing.T) {
	leaf, ab, cd, ef, abcd := letterHashes()
	for _, x := range []struct {
		size, m int
		want    []api.Hash
	}{
		{0, 0, nil},
		{1, 0, nil},
		{1, 1, nil},
		{2, 1, []api.Hash{leaf[1]}},
		{3, 1, []api.Hash{leaf[1], leaf[2]}},
		{3, 2, []api.Hash{leaf[2]}},
		{4, 2, []api.Hash{cd}},
		{4, 3, []api.Hash{leaf[2], leaf[3], ab}},
		{5, 4, []api.Hash{leaf[4]}},
		{6, 5, []api.Hash{leaf[4], leaf[5], abcd}},
		{7, 3, []api.Hash{leaf[2], leaf[3], ab, tree.Node(ef, leaf[6])}},
		{7, 4, []api.Hash{tree.Node(ef, leaf[6])}},
		{7, 5, []api.Hash{leaf[4], leaf[5], leaf[6], abcd}},
		{7, 6, []api.Hash{ef, leaf[6], abcd}},
		{8, 6, []api.Hash{ef, tree.Node(leaf[6], leaf[7]), abcd}},
		{8, 0, nil},
		{8, 8, nil},
	} {
		growth, ok := tree.Growth(letters[:x.size], x.m)
		checkHashes(t, "Growth", growth, ok, x.want)
	}
}

// P10.2: every path and every growth of lists of every size up to some beyond 64.
func TestProofsOfEverySize(t *testing.T) {
	r := rand.New(rand.NewSource(1022))
	for size := range 70 {
		for _, l := range [][]string{numbered(size), randomList(r, size)} {
			for n := range size {
				path, ok := tree.Path(l, n)
				checkHashes(t, "Path", path, ok, wordPath(l, n))
			}
			for m := range size + 1 {
				growth, ok := tree.Growth(l, m)
				checkHashes(t, "Growth", growth, ok, wordGrowth(l, m))
			}
		}
	}
}

// P10.2: some paths and growths of long lists.
func TestProofsOfLongLists(t *testing.T) {
	r := rand.New(rand.NewSource(1023))
	for _, size := range []int{1000, 1023, 1024, 1025, 2000, 1<<15 + 1} {
		l := numbered(size)
		for _, n := range []int{0, 1, 511, 512, 513, size / 2, size - 2, size - 1, r.Intn(size), r.Intn(size)} {
			path, ok := tree.Path(l, n)
			checkHashes(t, "Path", path, ok, wordPath(l, n))
			growth, ok := tree.Growth(l, n)
			checkHashes(t, "Growth", growth, ok, wordGrowth(l, n))
		}
	}
}

// P10.2: numbers beyond the list.
func TestProofsOfNothing(t *testing.T) {
	for size := range 20 {
		l := numbered(size)
		for _, beyond := range []int{-1, -2, -size, -size - 1, math.MinInt, math.MinInt + 1, size + 1, size + 2, 2*size + 1, 32, math.MaxInt} {
			if beyond != 0 {
				path, ok := tree.Path(l, beyond)
				checkNothing(t, "Path", path, ok)
				growth, ok := tree.Growth(l, beyond)
				checkNothing(t, "Growth", growth, ok)
			}
		}
		path, ok := tree.Path(l, size)
		checkNothing(t, "Path of the string behind the last one", path, ok)
		growth, ok := tree.Growth(l, size)
		checkHashes(t, "Growth from all strings", growth, ok, nil)
		growth, ok = tree.Growth(l, 0)
		checkHashes(t, "Growth from no strings", growth, ok, nil)
	}
	path, ok := tree.Path(nil, 0)
	checkNothing(t, "Path in nil", path, ok)
	growth, ok := tree.Growth(nil, 0)
	checkHashes(t, "Growth of nil", growth, ok, nil)
}
