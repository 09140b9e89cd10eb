// Package wire is layer 1: numbers and bytes. See shared/doc/01-wire.md.
package wire

import (
	"bytes"
	"slices"

	"anchorite/api"
)

const (
	wordSize  = 8 // as many bytes as a uint64 has
	countSize = 4 // as many as tell how long a frame is
	hexDigits = "0123456789abcdef"
)

// Put is the bytes of n, of which there are size, the lowest first.
func Put(n uint64, size int) ([]byte, api.Errno) {
	// A shift by 64 leaves nothing, so that 8 bytes have room for any number.
	if size < 1 || size > wordSize || n>>(8*size) != 0 {
		return nil, api.ErrArg
	}
	return lowestFirst(n, size), api.OK
}

// Get is the number whose bytes b are, the lowest first.
func Get(b []byte) (uint64, api.Errno) {
	if len(b) < 1 || len(b) > wordSize {
		return 0, api.ErrArg
	}
	return number(b), api.OK
}

// Turned is b in the other order.
func Turned(b []byte) []byte {
	out := make([]byte, len(b))
	for i := range len(b) {
		out[len(b)-1-i] = b[i]
	}
	return out
}

// Join is all bytes of the lists, one list behind the other.
func Join(l ...[]byte) []byte {
	var out []byte
	for _, b := range l {
		out = append(out, b...)
	}
	return out
}

// Pack is a frame of each list, one behind the other.
func Pack(l ...[]byte) ([]byte, api.Errno) {
	if len(l) > api.MaxFrames {
		return nil, api.ErrArg
	}
	var out []byte
	for _, b := range l {
		if len(b) > api.MaxFrame {
			return nil, api.ErrArg
		}
		out = append(out, lowestFirst(uint64(len(b)), countSize)...)
		out = append(out, b...)
	}
	return out, api.OK
}

// Unpack is the lists of which b is packed.
func Unpack(b []byte) ([][]byte, api.Errno) {
	var out [][]byte
	own := slices.Clone(b)
	for at := 0; at < len(own); {
		if len(out) == api.MaxFrames || len(own)-at < countSize {
			return nil, api.ErrBytes
		}
		n := number(own[at : at+countSize])
		at += countSize
		// As a uint64: an int may have no room for what four bytes claim.
		if n > api.MaxFrame || n > uint64(len(own)-at) {
			return nil, api.ErrBytes
		}
		out = append(out, piece(own, at, int(n)))
		at += int(n)
	}
	return out, api.OK
}

// Hex is b as a text, two digits for each byte.
func Hex(b []byte) string {
	out := make([]byte, 0, 2*len(b))
	for _, c := range b {
		out = append(out, hexDigits[c>>4], hexDigits[c&15])
	}
	return string(out)
}

// Unhex is the bytes whose text s is.
func Unhex(s string) ([]byte, api.Errno) {
	out := make([]byte, 0, len(s)/2)
text:
	for i := range len(s) / 2 {
		var c byte
		for j := range 2 {
			d, ok := digit(s[2*i+j])
			if !ok {
				break text
			}
			c = c<<4 | d
		}
		out = append(out, c)
	}
	// A text that was left early has too few bytes, and so has one of odd length.
	if 2*len(out) != len(s) {
		return nil, api.ErrBytes
	}
	return out, api.OK
}

// Word is the number of the 8 bytes of b from 8 i on; bytes that there are not are 0.
func Word(b []byte, i int) uint64 {
	// Held against len(b)/8 rather than 8 i against len(b): 8 i may wrap round.
	if i < 0 || i > len(b)/wordSize {
		return 0
	}
	at := i * wordSize
	return number(b[at:min(at+wordSize, len(b))])
}

// Same says whether a and b are the same bytes.
func Same(a, b []byte) bool { return bytes.Equal(a, b) }

// Cut is b in parts of these sizes, in order.
func Cut(b []byte, sizes ...int) ([][]byte, api.Errno) {
	for _, n := range sizes {
		if n < 0 {
			return nil, api.ErrArg
		}
	}
	var out [][]byte
	own, at := slices.Clone(b), 0
	for _, n := range sizes {
		// Held against what is left rather than summed: a sum may wrap round.
		if n > len(own)-at {
			return nil, api.ErrBytes
		}
		out = append(out, piece(own, at, n))
		at += n
	}
	if at != len(own) {
		return nil, api.ErrBytes
	}
	return out, api.OK
}

// piece is the n bytes of b from at on. Its capacity ends where it ends: a
// caller who appends to it does not write into the piece behind it.
func piece(b []byte, at, n int) []byte { return b[at : at+n : at+n] }

// lowestFirst is Put for a size and a number that are known to be right.
func lowestFirst(n uint64, size int) []byte {
	out := make([]byte, size)
	for i := range size {
		out[i] = byte(n >> (8 * i))
	}
	return out
}

// number is Get for at most 8 bytes; of none it is 0.
func number(b []byte) uint64 {
	var n uint64
	for i := range len(b) {
		n |= uint64(b[i]) << (8 * i)
	}
	return n
}

// digit is the worth of a hexadecimal digit, and whether c is one.
func digit(c byte) (byte, bool) {
	switch {
	case '0' <= c && c <= '9':
		return c - '0', true
	case 'a' <= c && c <= 'f':
		return c - 'a' + 10, true
	}
	return 0, false
}
