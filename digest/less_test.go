package digest_test

import (
	"bytes"
	"math/rand"
	"testing"

	"probity/api"
	"probity/digest"
)

func checkLess(t *testing.T, a, b api.Hash, want bool) {
	t.Helper()
	if got := digest.Less(a, b); got != want {
		t.Errorf("Less(%x, %x): %t", a[:], b[:], got)
	}
}

// P9.4: a hash is not less than itself.
func TestLessOfEqualHashes(t *testing.T) {
	r := rand.New(rand.NewSource(941))
	checkLess(t, api.Hash{}, api.Hash{}, false)
	for range 100 {
		h := randomHash(r)
		checkLess(t, h, h, false)
	}
}

// P9.4: the first byte that differs decides, whatever stands behind it.
func TestLessByTheFirstDifference(t *testing.T) {
	r := rand.New(rand.NewSource(942))
	for at := range 32 {
		for _, pair := range [][2]byte{{0, 1}, {1, 2}, {9, 10}, {0, 255}, {1, 254}, {127, 128}, {128, 129}, {254, 255}, {0x0f, 0x10}, {0x1f, 0xf1}} {
			shared := randomHash(r)
			less, greater := shared, shared
			less[at], greater[at] = pair[0], pair[1]
			checkLess(t, less, greater, true)
			checkLess(t, greater, less, false)
			for behind := at + 1; behind < 32; behind++ {
				less[behind], greater[behind] = 255, 0
			}
			checkLess(t, less, greater, true)
			checkLess(t, greater, less, false)
		}
	}
}

// P9.4: all pairs of bytes, which are numbers from 0 to 255, at the first and at the last place.
func TestLessOfAllBytes(t *testing.T) {
	for a := range 256 {
		for b := range 256 {
			checkLess(t, api.Hash{0: byte(a)}, api.Hash{0: byte(b)}, a < b)
			checkLess(t, api.Hash{31: byte(a)}, api.Hash{31: byte(b)}, a < b)
		}
	}
}

// P9.4: hashes that share any number of first bytes.
func TestLessOfRandomHashes(t *testing.T) {
	r := rand.New(rand.NewSource(943))
	for range 20000 {
		a, b := randomHash(r), randomHash(r)
		copy(b[:], a[:r.Intn(33)])
		checkLess(t, a, b, bytes.Compare(a[:], b[:]) < 0)
		checkLess(t, b, a, bytes.Compare(b[:], a[:]) < 0)
	}
}
