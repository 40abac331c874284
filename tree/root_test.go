package tree_test

import (
	"math/rand"
	"slices"
	"sync"
	"testing"

	"probity/api"
	"probity/digest"
	"probity/tree"
)

// P10.2: the lists of the chapter's examples, written out.
func TestRootExamples(t *testing.T) {
	a, b, c, d, e := tree.Leaf("a"), tree.Leaf("b"), tree.Leaf("c"), tree.Leaf("d"), tree.Leaf("e")
	ab, cd := tree.Node(a, b), tree.Node(c, d)
	for size, want := range []api.Hash{digest.Sum(""), a, ab, tree.Node(ab, c), tree.Node(ab, cd), tree.Node(tree.Node(ab, cd), e)} {
		checkHash(t, "Root", tree.Root([]string{"a", "b", "c", "d", "e"}[:size]), want)
	}
	checkHash(t, "Root of nil", tree.Root(nil), digest.Sum(""))
	checkHash(t, "Root of an empty string", tree.Root([]string{""}), digest.Sum("\x00"))
}

// P10.2: the roots of eight strings and their beginnings, as trees of this kind (RFC 6962) have them everywhere.
func TestRootsThatAreKnown(t *testing.T) {
	l := []string{"", "\x00", "\x10", "\x20\x21", "\x30\x31", "\x40\x41\x42\x43", "\x50\x51\x52\x53\x54\x55\x56\x57", "\x60\x61\x62\x63\x64\x65\x66\x67\x68\x69\x6a\x6b\x6c\x6d\x6e\x6f"}
	for size, digits := range []string{
		"e3b0c44298fc1c149afbf4c8996fb92427ae41e4649b934ca495991b7852b855",
		"6e340b9cffb37a989ca544e6bb780a2c78901d3fb33738768511a30617afa01d",
		"fac54203e7cc696cf0dfcb42c92a1d9dbaf70ad9e621f4bd8d98662f00e3c125",
		"aeb6bcfe274b70a14fb067a5e5578264db0fa9b51af5e0ba159158f329e06e77",
		"d37ee418976dd95753c1c73862b9398fa2a2cf9b4ff0fdfe8b30cd95209614b7",
		"4e3bbb1f7b478dcfe71fb631631519a3bca12c9aefca1612bfce4c13a86264d4",
		"76e67dadbcdf1e10e1b74ddc608abd2f98dfb16fbce75277b5232a127f2087ef",
		"ddb89be403809e325750d3d263cd78929c2942b7942a34b77e122c9594a74c8c",
		"5dc9da79a70659a9ad559cb701ded9a2ab9d823aad2f4960cfe370eff4604328",
	} {
		checkHash(t, "Root", tree.Root(l[:size]), hashOf(t, digits))
	}
}

// P10.2: all sizes up to some beyond 256, and long lists.
func TestRootOfEverySize(t *testing.T) {
	r := rand.New(rand.NewSource(1021))
	l := numbered(270)
	for size := range len(l) + 1 {
		checkHash(t, "Root", tree.Root(l[:size]), wordRoot(l[:size]))
		other := randomList(r, size)
		checkHash(t, "Root", tree.Root(other), wordRoot(other))
	}
	for _, size := range []int{1023, 1024, 1025, 40000, 1 << 16, 1<<16 + 1} {
		l := numbered(size)
		checkHash(t, "Root", tree.Root(l), wordRoot(l))
	}
}

// P10.2: the number of strings, their order and their borders count.
func TestRootsOfOtherLists(t *testing.T) {
	lists := [][]string{nil, {""}, {"", ""}, {"", "", ""}, {"", "", "", ""}, {"ab"}, {"a", "b"}, {"b", "a"}, {"ab", ""}, {"", "ab"}, {"a", "b", ""}, {"a", "b", "b"}, {"a", "b", "a", "b"}, {"a", "b", "c"}, {"a", "c", "b"}, {"c", "a", "b"}}
	seen := map[api.Hash]bool{}
	for _, l := range lists {
		seen[tree.Root(l)] = true
	}
	if len(seen) != len(lists) {
		t.Errorf("%d roots of %d lists", len(seen), len(lists))
	}
}

// R3: lists and proofs are not changed, nor what stands behind them.
func TestArgumentsAreNotChanged(t *testing.T) {
	l := numbered(40)
	before := slices.Clone(l)
	for size := range 38 {
		tree.Root(l[:size])
		for n := range size + 1 {
			path, _ := tree.Path(l[:size], n)
			growth, _ := tree.Growth(l[:size], n)
			kept := append(slices.Clip(slices.Concat(path, growth)), api.Hash{1})
			used := slices.Clone(kept)
			tree.CheckPath(headOf(l[:size]), n, l[n], used[:len(path)])
			tree.CheckGrowth(headOf(l[:n]), headOf(l[:size]), used[len(path):len(path)+len(growth)])
			if !slices.Equal(used, kept) {
				t.Fatalf("the proofs for %d of %d strings have changed", n, size)
			}
		}
	}
	if !slices.Equal(l, before) {
		t.Error("the strings have changed")
	}
}

// R3, R4: a result that is changed plays no part in later ones.
func TestResultsAreNew(t *testing.T) {
	l := numbered(23)
	for n := range l {
		for _, call := range []func([]string, int) ([]api.Hash, bool){tree.Path, tree.Growth} {
			one, _ := call(l, n)
			kept := slices.Clone(one)
			for i := range one {
				one[i] = api.Hash{}
			}
			if again, _ := call(l, n); !slices.Equal(again, kept) {
				t.Errorf("another result for %d", n)
			}
		}
	}
}

// The package holds no state: calls at the same time do not disturb each other.
func TestCallsAtTheSameTime(t *testing.T) {
	var all sync.WaitGroup
	for worker := range 8 {
		all.Go(func() {
			l := numbered(50 + worker)
			h := headOf(l)
			for n := range l {
				path, _ := tree.Path(l, n)
				checkPathIs(t, h, n, l[n], path, true)
				growth, _ := tree.Growth(l, n)
				checkGrowthIs(t, headOf(l[:n]), h, growth, true)
			}
		})
	}
	all.Wait()
}
