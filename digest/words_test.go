package digest_test

import (
	"encoding/hex"
	"math/big"
	"math/rand"
	"testing"

	"probity/api"
)

// The following functions state the chapter's words once more, with numbers of any size and the modulo written out.

const modulus = 1 << 32

// primes returns the first prime numbers.
func primes(count int) []int64 {
	var found []int64
	for n := int64(2); len(found) < count; n++ {
		if big.NewInt(n).ProbablyPrime(0) {
			found = append(found, n)
		}
	}
	return found
}

// rootBits returns the first 32 bits after the point of a root of n: of the greatest number whose power is at most n times that of 2^32.
func rootBits(n, degree int64) uint64 {
	power := func(x *big.Int) *big.Int { return new(big.Int).Exp(x, big.NewInt(degree), nil) }
	most := new(big.Int).Mul(big.NewInt(n), power(big.NewInt(modulus)))
	root := new(big.Int)
	for bit := 40; bit >= 0; bit-- {
		root.SetBit(root, bit, 1)
		if power(root).Cmp(most) > 0 {
			root.SetBit(root, bit, 0)
		}
	}
	return root.Uint64() % modulus
}

func rootsBits(count int, degree int64) []uint64 {
	var words []uint64
	for _, p := range primes(count) {
		words = append(words, rootBits(p, degree))
	}
	return words
}

func rotated(x uint64, n int) uint64 { return (x>>n | x<<(32-n)) % modulus }

func not(x uint64) uint64 { return modulus - 1 - x }

// message returns the bytes of s with those that are added behind it.
func message(s string) []byte {
	m := append([]byte(s), 0x80)
	for (len(m)+8)%64 != 0 {
		m = append(m, 0)
	}
	bits := new(big.Int).Mul(big.NewInt(int64(len(s))), big.NewInt(8))
	return append(m, bits.FillBytes(make([]byte, 8))...)
}

// sumInWords returns a function, so that the constants are computed once.
func sumInWords() func(s string) api.Hash {
	k, first := rootsBits(64, 3), rootsBits(8, 2)
	return func(s string) api.Hash {
		words := append([]uint64(nil), first...)
		for m := message(s); len(m) > 0; m = m[64:] {
			addBlock(words, m[:64], k)
		}
		var h api.Hash
		for i, word := range words {
			new(big.Int).SetUint64(word).FillBytes(h[4*i : 4*i+4])
		}
		return h
	}
}

// addBlock changes the words of the state by a block.
func addBlock(words []uint64, block []byte, k []uint64) {
	var w [64]uint64
	for i := range 16 {
		w[i] = new(big.Int).SetBytes(block[4*i : 4*i+4]).Uint64()
	}
	for i := 16; i < 64; i++ {
		x, y := w[i-15], w[i-2]
		s0 := rotated(x, 7) ^ rotated(x, 18) ^ x/(1<<3)
		s1 := rotated(y, 17) ^ rotated(y, 19) ^ y/(1<<10)
		w[i] = (w[i-16] + s0 + w[i-7] + s1) % modulus
	}
	v := append([]uint64(nil), words...) // a to h
	for i := range 64 {
		a, b, c, d, e, f, g, h := v[0], v[1], v[2], v[3], v[4], v[5], v[6], v[7]
		t := h + (rotated(e, 6) ^ rotated(e, 11) ^ rotated(e, 25)) + (e&f ^ not(e)&g) + k[i] + w[i]
		u := (rotated(a, 2) ^ rotated(a, 13) ^ rotated(a, 22)) + (a&b ^ a&c ^ b&c)
		v = []uint64{(t + u) % modulus, a, b, c, (d + t) % modulus, e, f, g}
	}
	for i := range words {
		words[i] = (words[i] + v[i]) % modulus
	}
}

// The constants of the words above are those that the chapter mentions, and that everybody knows.
func TestConstantsInWords(t *testing.T) {
	k, first := rootsBits(64, 3), rootsBits(8, 2)
	if k[0] != 0x428a2f98 || k[1] != 0x71374491 || k[63] != 0xc67178f2 || first[0] != 0x6a09e667 || first[7] != 0x5be0cd19 {
		t.Errorf("k %x, h %x", k, first)
	}
}

// hashOf returns the hash with these digits, read by the library.
func hashOf(t *testing.T, digits string) api.Hash {
	t.Helper()
	bytes, err := hex.DecodeString(digits)
	if err != nil || len(bytes) != 32 {
		t.Fatalf("%q are not the digits of a hash", digits)
	}
	return api.Hash(bytes)
}

func randomBytes(r *rand.Rand, count int) string {
	bytes := make([]byte, count)
	r.Read(bytes)
	return string(bytes)
}

func randomHash(r *rand.Rand) api.Hash { return api.Hash([]byte(randomBytes(r, 32))) }
