// Package code is layer 1: numbers, texts and keys as bytes, in order. See shared/doc/01-code.md.
package code

import (
	"bytes"

	"millhand/api"
)

const (
	more      = 128 // added to a small byte that is not the last one
	smallBits = 7   // of a number that a small byte holds
	lastSmall = 9   // the place of the last byte of the longest number: 9 bytes hold 63 bits, so it holds one
)

// Small is a number's small bytes.
func Small(n uint64) []byte {
	var b []byte
	for ; n >= more; n >>= smallBits {
		b = append(b, byte(n)|more)
	}
	return append(b, byte(n))
}

// Read is the number whose small bytes b begins with, and how many these are.
func Read(b []byte) (uint64, int, api.Errno) {
	var n uint64
	for i, c := range b {
		if i == lastSmall && c > 1 {
			return 0, 0, api.ErrBad
		}
		n |= uint64(c%more) << (smallBits * i)
		if c >= more {
			continue
		}
		// A last byte 0 tells nothing: the number could have been written without it.
		if c == 0 && i > 0 {
			return 0, 0, api.ErrBad
		}
		return n, i + 1, api.OK
	}
	return 0, 0, api.ErrBad
}

// Text is a text's bytes.
func Text(s string) []byte {
	return append(Small(uint64(len(s))), s...)
}

// Cut is the text whose bytes b begins with, and what stands behind it.
func Cut(b []byte) (string, []byte, api.Errno) {
	n, size, e := Read(b)
	if e != api.OK {
		return "", nil, e
	}
	rest := b[size:]
	// Compared as uint64: a length that was read may be greater than any int.
	if n > uint64(len(rest)) {
		return "", nil, api.ErrBad
	}
	return string(rest[:n]), bytes.Clone(rest[n:]), api.OK
}
