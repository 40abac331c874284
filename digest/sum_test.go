package digest_test

import (
	"crypto/sha256"
	"math/rand"
	"strings"
	"sync"
	"testing"
	"unsafe"

	"probity/api"
	"probity/digest"
)

func checkSum(t *testing.T, s string, want api.Hash) {
	t.Helper()
	if got := digest.Sum(s); got != want {
		t.Errorf("Sum of %d bytes, %.80q: %x, want %x", len(s), s, got, want)
	}
}

// P9.1: the examples of the chapter, and those of FIPS 180-4.
func TestSumExamples(t *testing.T) {
	const (
		bits448 = "abcdbcdecdefdefgefghfghighijhijkijkljklmklmnlmnomnopnopq"
		bits896 = "abcdefghbcdefghicdefghijdefghijkefghijklfghijklmghijklmnhijklmnoijklmnopjklmnopqklmnopqrlmnopqrsmnopqrstnopqrstu"
	)
	for s, want := range map[string]string{
		"":                           "e3b0c44298fc1c149afbf4c8996fb92427ae41e4649b934ca495991b7852b855",
		"abc":                        "ba7816bf8f01cfea414140de5dae2223b00361a396177a9cb410ff61f20015ad",
		bits448:                      "248d6a61d20638b8e5c026930c3e6039a33ce45964ff2167f6ecedd419db06c1",
		bits896:                      "cf5b16a778af8380036ce59e7b0492370b249b11e8f07a51afac45037afee9d1",
		strings.Repeat("a", 1000000): "cdc76e5c9914fb9281a1c7e284d73e67f1809a48a497200e046d39ccc7112cd0",
	} {
		checkSum(t, s, hashOf(t, want))
	}
}

// P9.1: strings of all lengths up to five blocks, among them those whose padding just fits, or just does not.
func TestSumOfEveryLength(t *testing.T) {
	r := rand.New(rand.NewSource(911))
	inWords := sumInWords()
	for length := range 5*64 + 1 {
		for _, s := range []string{randomBytes(r, length), strings.Repeat("\x00", length), strings.Repeat("\xff", length)} {
			checkSum(t, s, inWords(s))
			checkSum(t, s, sha256.Sum256([]byte(s)))
		}
	}
}

// P9.1: each bit of each byte of two blocks counts, at its place.
func TestSumOfEveryBit(t *testing.T) {
	inWords := sumInWords()
	seen := map[api.Hash]bool{}
	for at := range 2 * 64 {
		for bit := range 8 {
			bytes := make([]byte, 2*64)
			bytes[at] = 1 << bit
			checkSum(t, string(bytes), inWords(string(bytes)))
			seen[digest.Sum(string(bytes))] = true
		}
	}
	if len(seen) != 2*64*8 {
		t.Errorf("%d hashes of %d strings", len(seen), 2*64*8)
	}
}

// P9.1: a string is a sequence of bytes, not of characters; zeros, ends of lines and invalid bytes are bytes like others.
func TestSumOfBytes(t *testing.T) {
	inWords := sumInWords()
	for b := range 256 {
		checkSum(t, string([]byte{byte(b)}), inWords(string([]byte{byte(b)})))
	}
	for _, s := range []string{"\x00", "\x00\x00", "a\x00", "\x00a", "a\n", "a\r\n", " a", "é", "e\u0301", "\xc3", "\xff\xfe", "\xed\xa0\x80", "\ufffd", "\U0010ffff"} {
		checkSum(t, s, inWords(s))
	}
}

// P9.1: what is added behind a string is not its own: a string that already ends like that has another hash.
func TestSumOfPaddedStrings(t *testing.T) {
	inWords := sumInWords()
	for _, s := range []string{"", "abc", strings.Repeat("a", 55), strings.Repeat("a", 56), strings.Repeat("a", 64)} {
		padded := string(message(s))
		checkSum(t, padded, inWords(padded))
		for _, longer := range []string{padded, s + "\x80", s + "\x00"} {
			if digest.Sum(longer) == digest.Sum(s) {
				t.Errorf("%q has the hash of %q", longer, s)
			}
		}
	}
}

// P9.1: long strings, whose numbers of bits have up to 28 binary digits.
func TestSumOfLongStrings(t *testing.T) {
	r := rand.New(rand.NewSource(912))
	for shift := 9; shift <= 24; shift++ {
		s := randomBytes(r, 1<<shift+r.Intn(1<<shift))
		checkSum(t, s, sha256.Sum256([]byte(s)))
		checkSum(t, s[:1<<shift], sha256.Sum256([]byte(s[:1<<shift])))
	}
	inWords := sumInWords()
	for range 20 {
		s := randomBytes(r, r.Intn(20000))
		checkSum(t, s, inWords(s))
	}
}

// P9.1: a number of bits that 32 binary digits do not hold. Memory that is only read is not used up, so the string is made of it as it is.
func TestSumOfManyBits(t *testing.T) {
	bytes := make([]byte, 1<<29+3)
	checkSum(t, unsafe.String(&bytes[0], len(bytes)), sha256.Sum256(bytes))
}

// R3: neither the string nor the bytes behind it are changed; R4: the same call has the same result, wherever the string lies.
func TestSumOwnership(t *testing.T) {
	r := rand.New(rand.NewSource(913))
	before := randomBytes(r, 400)
	bytes := []byte(before)
	all := unsafe.String(&bytes[0], len(bytes))
	for from := range 80 {
		for _, length := range []int{0, 1, 55, 56, 63, 64, 65, 200} {
			s := all[from : from+length]
			checkSum(t, s, sha256.Sum256([]byte(strings.Clone(s))))
			checkSum(t, s, digest.Sum(strings.Clone(s)))
		}
	}
	if all != before {
		t.Error("the bytes of the argument have changed")
	}
}

// The package holds no state: calls at the same time do not disturb each other.
func TestSumAtTheSameTime(t *testing.T) {
	var all sync.WaitGroup
	for worker := range 8 {
		all.Go(func() {
			s := strings.Repeat(string(rune('a'+worker)), 100*(worker+1))
			for range 300 {
				checkSum(t, s, sha256.Sum256([]byte(s)))
			}
		})
	}
	all.Wait()
}
