package tree_test

import (
	"crypto/sha256"
	"encoding/hex"
	"math/rand"
	"slices"
	"strconv"
	"testing"

	"probity/api"
	"probity/tree"
)

// The following functions state the chapter's words once more, from the root downwards, with the library's SHA-256.

func wordLeaf(s string) api.Hash { return sha256.Sum256(append([]byte{0}, s...)) }

func wordNode(a, b api.Hash) api.Hash {
	return sha256.Sum256(slices.Concat([]byte{1}, a[:], b[:]))
}

// wordHalf doubles 1 as long as the double is less than n.
func wordHalf(n int) int {
	k := uint64(1)
	for 2*k < uint64(n) {
		k *= 2
	}
	return int(k)
}

func wordRoot(l []string) api.Hash {
	switch len(l) {
	case 0:
		return sha256.Sum256(nil)
	case 1:
		return wordLeaf(l[0])
	}
	k := wordHalf(len(l))
	return wordNode(wordRoot(l[:k]), wordRoot(l[k:]))
}

func wordPath(l []string, i int) []api.Hash {
	if len(l) == 1 {
		return nil
	}
	k := wordHalf(len(l))
	if i < k {
		return append(wordPath(l[:k], i), wordRoot(l[k:]))
	}
	return append(wordPath(l[k:], i-k), wordRoot(l[:k]))
}

// wordMarkedGrowth is the growth with a mark, for 0 < m <= len(l).
func wordMarkedGrowth(l []string, m int, whole bool) []api.Hash {
	switch {
	case m == len(l) && whole:
		return nil
	case m == len(l):
		return []api.Hash{wordRoot(l)}
	}
	k := wordHalf(len(l))
	if m <= k {
		return append(wordMarkedGrowth(l[:k], m, whole), wordRoot(l[k:]))
	}
	return append(wordMarkedGrowth(l[k:], m-k, false), wordRoot(l[:k]))
}

func wordGrowth(l []string, m int) []api.Hash {
	if m == 0 || m == len(l) {
		return nil
	}
	return wordMarkedGrowth(l, m, true)
}

// wordPathRoot returns the root that results from a leaf and a path, and whether the path has the right length.
func wordPathRoot(size, n int, leaf api.Hash, path []api.Hash) (api.Hash, bool) {
	if size == 1 {
		return leaf, len(path) == 0
	}
	if len(path) == 0 {
		return api.Hash{}, false
	}
	k, below, last := wordHalf(size), path[:len(path)-1], path[len(path)-1]
	if n < k {
		root, ok := wordPathRoot(k, n, leaf, below)
		return wordNode(root, last), ok
	}
	root, ok := wordPathRoot(size-k, n-k, leaf, below)
	return wordNode(last, root), ok
}

func wordCheckPath(h api.Head, n int, leaf string, path []api.Hash) bool {
	if n < 0 || n >= h.Size {
		return false
	}
	root, ok := wordPathRoot(h.Size, n, wordLeaf(leaf), path)
	return ok && root == h.Root
}

// wordGrowthRoots returns the two roots that result from a proof, and whether it has the right length; old is what is reached with the mark.
func wordGrowthRoots(m, n int, whole bool, old api.Hash, proof []api.Hash) (api.Hash, api.Hash, bool) {
	if m == n && whole {
		return old, old, len(proof) == 0
	}
	if len(proof) == 0 {
		return api.Hash{}, api.Hash{}, false
	}
	if m == n {
		return proof[0], proof[0], len(proof) == 1
	}
	k, below, last := wordHalf(n), proof[:len(proof)-1], proof[len(proof)-1]
	if m <= k {
		a, b, ok := wordGrowthRoots(m, k, whole, old, below)
		return a, wordNode(b, last), ok
	}
	a, b, ok := wordGrowthRoots(m-k, n-k, false, old, below)
	return wordNode(last, a), wordNode(last, b), ok
}

func wordCheckGrowth(old, next api.Head, proof []api.Hash) bool {
	if old.Size < 0 || old.Size > next.Size {
		return false
	}
	if old.Size == next.Size {
		return old.Root == next.Root && len(proof) == 0
	}
	if old.Size == 0 {
		return old.Root == wordRoot(nil) && len(proof) == 0
	}
	a, b, ok := wordGrowthRoots(old.Size, next.Size, true, old.Root, proof)
	return ok && a == old.Root && b == next.Root
}

// numbered returns a list of different strings.
func numbered(size int) []string {
	l := make([]string, size)
	for i := range l {
		l[i] = "string " + strconv.Itoa(i)
	}
	return l
}

// randomList returns a list of strings of few kinds, so that some are equal, some empty, and some look like what is hashed.
func randomList(r *rand.Rand, size int) []string {
	l := make([]string, size)
	for i := range l {
		switch r.Intn(4) {
		case 0:
			l[i] = []string{"", "\x00", "\x01", "a", "\x00a", "é", "\xff"}[r.Intn(7)]
		case 1:
			l[i] = l[r.Intn(i+1)]
		case 2:
			l[i] = textOf(randomHash(r)) + textOf(randomHash(r))
		case 3:
			l[i] = string(make([]byte, r.Intn(200)))
		}
	}
	return l
}

func randomHash(r *rand.Rand) api.Hash {
	var h api.Hash
	r.Read(h[:])
	return h
}

func randomHashes(r *rand.Rand, count int) []api.Hash {
	hashes := make([]api.Hash, count)
	for i := range hashes {
		hashes[i] = randomHash(r)
	}
	return hashes
}

// textOf returns the 32 bytes of a hash.
func textOf(h api.Hash) string { return string(h[:]) }

func headOf(l []string) api.Head { return api.Head{Size: len(l), Root: wordRoot(l)} }

// flipped returns a hash that differs in one bit.
func flipped(h api.Hash, bit int) api.Hash {
	h[bit/8] ^= 1 << (bit % 8)
	return h
}

// without returns the hashes without one of them.
func without(hashes []api.Hash, at int) []api.Hash {
	return slices.Delete(slices.Clone(hashes), at, at+1)
}

// with returns the hashes with one more before a place.
func with(hashes []api.Hash, at int, h api.Hash) []api.Hash {
	return slices.Insert(slices.Clone(hashes), at, h)
}

// changed returns the hashes with another one at a place.
func changed(hashes []api.Hash, at int, h api.Hash) []api.Hash {
	other := slices.Clone(hashes)
	other[at] = h
	return other
}

func hashOf(t *testing.T, digits string) api.Hash {
	t.Helper()
	bytes, err := hex.DecodeString(digits)
	if err != nil || len(bytes) != 32 {
		t.Fatalf("%q are not the digits of a hash", digits)
	}
	return api.Hash(bytes)
}

func checkHash(t *testing.T, what string, got, want api.Hash) {
	t.Helper()
	if got != want {
		t.Errorf("%s: %x, want %x", what, got[:4], want[:4])
	}
}

func checkHashes(t *testing.T, what string, got []api.Hash, ok bool, want []api.Hash) {
	t.Helper()
	if !ok || !slices.Equal(got, want) {
		t.Errorf("%s: %x, %t, want %x", what, got, ok, want)
	}
}

func checkNothing(t *testing.T, what string, got []api.Hash, ok bool) {
	t.Helper()
	if ok || len(got) != 0 {
		t.Errorf("%s: %x, %t, want nothing", what, got, ok)
	}
}

func checkPathIs(t *testing.T, h api.Head, n int, leaf string, path []api.Hash, want bool) {
	t.Helper()
	if got := tree.CheckPath(h, n, leaf, path); got != want {
		t.Errorf("CheckPath of string %d of %d (%.20q) with %d hashes: %t", n, h.Size, leaf, len(path), got)
	}
}

func checkGrowthIs(t *testing.T, old, next api.Head, proof []api.Hash, want bool) {
	t.Helper()
	if got := tree.CheckGrowth(old, next, proof); got != want {
		t.Errorf("CheckGrowth from %d to %d with %d hashes: %t", old.Size, next.Size, len(proof), got)
	}
}
