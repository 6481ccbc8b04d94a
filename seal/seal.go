// Package seal closes bytes so that it shows if they were spoiled on their
// way: their length stands ahead of them, a checksum behind.
package seal

import "junction/api"

// wordSize is how many bytes the length has, and the checksum.
const wordSize = 4

// Close seals a body.
func Close(body string) string {
	ahead := word(uint32(wordSize+len(body)+wordSize)) + body
	return ahead + word(sum(ahead))
}

// Open tells the body, if nothing was spoiled. The length alone shows that
// bytes are missing or too many: no chance is left that the checksum fits.
func Open(sealed string) (string, bool) {
	end := len(sealed) - wordSize
	if end < wordSize || len(sealed) > api.MaxImage {
		return "", false
	}
	if sealed[:wordSize] != word(uint32(len(sealed))) || sealed[end:] != word(sum(sealed[:end])) {
		return "", false
	}
	return sealed[wordSize:end], true
}

func word(n uint32) string {
	return string([]byte{byte(n), byte(n >> 8), byte(n >> 16), byte(n >> 24)})
}

// halves is what the polynomial of sum makes of four bits.
var halves = [16]uint32{
	0x00000000, 0x1db71064, 0x3b6e20c8, 0x26d930ac, 0x76dc4190, 0x6b6b51f4, 0x4db26158, 0x5005713c,
	0xedb88320, 0xf00f9344, 0xd6d6a3e8, 0xcb61b38c, 0x9b64c2b0, 0x86d3d2d4, 0xa00ae278, 0xbdbdf21c,
}

// sum is a remainder by a polynomial of degree 32 (CRC-32). It takes bit 0 of
// each byte first, and is written the same way right behind what it is of:
// so no row of 32 bits can be turned, not even across their border, that
// leaves the remainder as it is.
func sum(text string) uint32 {
	rest := ^uint32(0)
	for _, c := range []byte(text) {
		rest ^= uint32(c)
		rest = rest>>4 ^ halves[rest&15]
		rest = rest>>4 ^ halves[rest&15]
	}
	return ^rest
}
