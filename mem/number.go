package mem

import "slices"

// longest is how many bytes a number has at most.
const longest = 8

// Little is x modulo 256^n in n bytes, its lowest byte first.
func Little(x uint64, n int) string {
	return string(spread(x, n))
}

// Big is x modulo 256^n in n bytes, its highest byte first.
func Big(x uint64, n int) string {
	b := spread(x, n)
	slices.Reverse(b)
	return string(b)
}

// ReadLittle is the number that n bytes of s from at on are, the lowest first.
func ReadLittle(s string, at, n int) (uint64, bool) {
	b, ok := cut(s, at, n)
	return get(b), ok
}

// ReadBig is the number that n bytes of s from at on are, the highest first.
func ReadBig(s string, at, n int) (uint64, bool) {
	b, ok := cut(s, at, n)
	slices.Reverse(b)
	return get(b), ok
}

// mayHave tells whether a number may have n bytes.
func mayHave(n int) bool {
	return n >= 1 && n <= longest
}

// spread is x in n new bytes, little; none, if a number may not have so many.
func spread(x uint64, n int) []byte {
	if !mayHave(n) {
		return nil
	}
	b := make([]byte, n)
	put(b, x)
	return b
}

// cut is a copy of the n bytes of s from at on, if they are there and may be a number.
func cut(s string, at, n int) ([]byte, bool) {
	if !mayHave(n) || !inside(len(s), at, n) {
		return nil, false
	}
	return []byte(s[at : at+n]), true
}

// put makes b the lowest bytes of x, little.
func put(b []byte, x uint64) {
	for i := range len(b) {
		b[i] = byte(x >> (8 * i))
	}
}

// get is the number that b is, little.
func get(b []byte) uint64 {
	x := uint64(0)
	for i := range len(b) {
		x |= uint64(b[i]) << (8 * i)
	}
	return x
}
