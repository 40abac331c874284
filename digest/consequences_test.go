package digest_test

import (
	"math/rand"
	"slices"
	"sort"
	"testing"

	"probity/api"
	"probity/digest"
)

// someHashes returns sums, and random hashes that share any number of first bytes with others.
func someHashes(r *rand.Rand) []api.Hash {
	hashes := []api.Hash{{}, {0: 1}, {31: 1}, {0: 0x7f}, {0: 0x80}, {0: 0x9f}, {0: 0xa0}, {0: 0xff}, {31: 0x9f}, {31: 0xa0}}
	for range 100 {
		h := randomHash(r)
		copy(h[:], hashes[r.Intn(len(hashes))][:r.Intn(33)])
		hashes = append(hashes, h, digest.Sum(randomBytes(r, r.Intn(200))))
	}
	return hashes
}

// P9.5: Less is the order of the texts.
func TestLessIsTheOrderOfTexts(t *testing.T) {
	hashes := someHashes(rand.New(rand.NewSource(951)))
	for _, a := range hashes {
		for _, b := range hashes {
			checkLess(t, a, b, digest.Text(a) < digest.Text(b))
		}
	}
	sort.Slice(hashes, func(i, j int) bool { return digest.Less(hashes[i], hashes[j]) })
	var texts []string
	for _, h := range hashes {
		texts = append(texts, digest.Text(h))
	}
	if !slices.IsSorted(texts) {
		t.Errorf("the order of the texts is %q", texts)
	}
}

// P9.5: Read undoes Text; P9.3: what is read has the text that was read.
func TestReadUndoesText(t *testing.T) {
	r := rand.New(rand.NewSource(952))
	for _, h := range someHashes(r) {
		checkRead(t, digest.Text(h), h)
	}
	for range 20000 {
		s := make([]byte, 64)
		for i := range s {
			s[i] = "0123456789abcdef"[r.Intn(16)]
		}
		if r.Intn(2) == 0 {
			s[r.Intn(64)] = byte(r.Intn(256))
		}
		if h, ok := digest.Read(string(s)); ok {
			checkText(t, h, string(s))
		}
	}
}
