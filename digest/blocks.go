package digest

import "probity/api"

const (
	rounds     = 64
	blockSize  = 64 // bytes of a block
	wordSize   = 4  // bytes of a word
	lengthSize = 8  // bytes of the number of bits
)

// state consists of the eight words that one block after the other changes.
type state [8]uint32

// padding returns what follows a message of so many bytes: a byte 0x80, bytes 0 up to a whole number of blocks, and the number of bits.
func padding(length int) string {
	zeros := (2*blockSize - 1 - lengthSize - length%blockSize) % blockSize
	end := make([]byte, 1+zeros+lengthSize)
	end[0] = 0x80
	bits := uint64(length) * 8
	for i := range lengthSize {
		end[len(end)-1-i] = byte(bits >> (8 * i))
	}
	return string(end)
}

// absorbed returns the state after some whole blocks.
func absorbed(s state, blocks string) state {
	for at := 0; at < len(blocks); at += blockSize {
		for i, word := range mixed(s, schedule(blocks[at:at+blockSize])) {
			s[i] += word
		}
	}
	return s
}

// schedule returns the words of a block, and those that are computed from them.
func schedule(block string) [rounds]uint32 {
	var w [rounds]uint32
	given := len(block) / wordSize
	for i := range given {
		w[i] = wordOf(block[wordSize*i:])
	}
	for i := given; i < rounds; i++ {
		x, y := w[i-15], w[i-2]
		s0 := rot(x, 7) ^ rot(x, 18) ^ (x >> 3)
		s1 := rot(y, 17) ^ rot(y, 19) ^ (y >> 10)
		w[i] = w[i-16] + s0 + w[i-7] + s1
	}
	return w
}

// mixed returns the words a to h after all rounds.
func mixed(s state, w [rounds]uint32) state {
	a, b, c, d, e, f, g, h := s[0], s[1], s[2], s[3], s[4], s[5], s[6], s[7]
	for i := range rounds {
		t := h + (rot(e, 6) ^ rot(e, 11) ^ rot(e, 25)) + ((e & f) ^ (^e & g)) + roundConstants[i] + w[i]
		u := (rot(a, 2) ^ rot(a, 13) ^ rot(a, 22)) + ((a & b) ^ (a & c) ^ (b & c))
		h, g, f, e = g, f, e, d+t
		d, c, b, a = c, b, a, t+u
	}
	return state{a, b, c, d, e, f, g, h}
}

// rot returns x rotated to the right by n bits, which are less than 32.
func rot(x uint32, n uint) uint32 { return x>>n | x<<(32-n) }

// wordOf returns the word of which the first four bytes are those of s, the most significant one first.
func wordOf(s string) uint32 {
	return uint32(s[0])<<24 | uint32(s[1])<<16 | uint32(s[2])<<8 | uint32(s[3])
}

// hashOf returns the bytes of the words, the most significant one of each first.
func hashOf(s state) api.Hash {
	var h api.Hash
	for i := range h {
		h[i] = byte(s[i/wordSize] >> (24 - 8*(i%wordSize)))
	}
	return h
}
