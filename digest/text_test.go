package digest_test

import (
	"encoding/hex"
	"math/rand"
	"strings"
	"testing"

	"probity/api"
	"probity/digest"
)

const abcDigits = "ba7816bf8f01cfea414140de5dae2223b00361a396177a9cb410ff61f20015ad"

func checkText(t *testing.T, h api.Hash, want string) {
	t.Helper()
	if got := digest.Text(h); got != want {
		t.Errorf("Text of %x: %q, want %q", h[:], got, want)
	}
}

// P9.2: the examples of the chapter, and hashes that can be read at a glance.
func TestTextExamples(t *testing.T) {
	checkText(t, digest.Sum(""), "e3b0c44298fc1c149afbf4c8996fb92427ae41e4649b934ca495991b7852b855")
	checkText(t, digest.Sum("abc"), abcDigits)
	checkText(t, api.Hash{}, strings.Repeat("0", 64))
	checkText(t, api.Hash{0x01, 0x23, 0x45, 0x67, 0x89, 0xab, 0xcd, 0xef}, "0123456789abcdef"+strings.Repeat("0", 48))
	checkText(t, api.Hash{0: 0x0a, 31: 0xa0}, "0a"+strings.Repeat("0", 60)+"a0")
	checkText(t, api.Hash{30: 1, 31: 2}, strings.Repeat("0", 60)+"0102")
	var full api.Hash
	for i := range full {
		full[i] = 0xff
	}
	checkText(t, full, strings.Repeat("f", 64))
}

// P9.2: every byte at every place.
func TestTextOfEveryByte(t *testing.T) {
	for at := range 32 {
		for b := range 256 {
			var h api.Hash
			h[at] = byte(b)
			checkText(t, h, strings.Repeat("00", at)+hex.EncodeToString([]byte{byte(b)})+strings.Repeat("00", 31-at))
		}
	}
	r := rand.New(rand.NewSource(921))
	for range 1000 {
		h := randomHash(r)
		checkText(t, h, hex.EncodeToString(h[:]))
	}
}

func checkRead(t *testing.T, s string, want api.Hash) {
	t.Helper()
	if got, ok := digest.Read(s); got != want || !ok {
		t.Errorf("Read(%q): %x, %t, want %x", s, got, ok, want)
	}
}

func checkUnreadable(t *testing.T, s string) {
	t.Helper()
	if got, ok := digest.Read(s); got != (api.Hash{}) || ok {
		t.Errorf("Read(%q): %x, %t, want none", s, got, ok)
	}
}

// P9.3: texts of hashes, that of the zero hash among them.
func TestReadTexts(t *testing.T) {
	checkRead(t, abcDigits, hashOf(t, abcDigits))
	checkRead(t, strings.Repeat("0", 64), api.Hash{})
	checkRead(t, "0123456789abcdef"+strings.Repeat("0", 48), api.Hash{0x01, 0x23, 0x45, 0x67, 0x89, 0xab, 0xcd, 0xef})
	checkRead(t, strings.Repeat("0", 60)+"0102", api.Hash{30: 1, 31: 2})
	r := rand.New(rand.NewSource(931))
	for range 1000 {
		h := randomHash(r)
		checkRead(t, hex.EncodeToString(h[:]), h)
	}
}

// P9.3: every byte at the place of every digit; only the 16 digits of texts are read.
func TestReadEveryByte(t *testing.T) {
	for at := range 64 {
		for b := range 256 {
			s := abcDigits[:at] + string([]byte{byte(b)}) + abcDigits[at+1:]
			if strings.IndexByte("0123456789abcdef", byte(b)) >= 0 {
				checkRead(t, s, hashOf(t, s))
			} else {
				checkUnreadable(t, s)
			}
		}
	}
}

// P9.3: strings of other lengths, however right their digits are.
func TestReadOtherLengths(t *testing.T) {
	for length := range 300 {
		if length != 64 {
			checkUnreadable(t, strings.Repeat("0", length))
			checkUnreadable(t, strings.Repeat(abcDigits, 5)[:length])
		}
	}
	checkUnreadable(t, strings.Repeat("a", 1<<20))
}

// P9.3: strings that only look like texts of hashes.
func TestReadOtherForms(t *testing.T) {
	h := hashOf(t, abcDigits)
	for _, s := range []string{
		strings.ToUpper(abcDigits),
		"B" + abcDigits[1:],
		abcDigits[:63] + "D",
		"0x" + abcDigits,
		"0x" + abcDigits[2:],
		" " + abcDigits,
		abcDigits + "\n",
		abcDigits[:63] + " ",
		" " + abcDigits[1:],
		"+" + abcDigits[1:],
		"-" + abcDigits[1:],
		abcDigits[:31] + "_" + abcDigits[32:],
		abcDigits[:63] + "\x00",
		abcDigits[:63] + "g",
		abcDigits + abcDigits,
		string(h[:]),
		string(h[:]) + string(h[:]),
		strings.Repeat("é", 32),
		strings.Repeat("é", 64),
		strings.Repeat("０", 64),
		strings.Repeat("\xff", 64),
	} {
		checkUnreadable(t, s)
	}
}
