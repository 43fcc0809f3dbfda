// Package field is layer 1: numbers in bytes, the lowest first: see shared/doc/01-field.md.
package field

import "linotype/api"

// Put tells a number's bytes.
func Put(n, size int) ([]byte, api.Errno) {
	if !sized(size) {
		return nil, api.ErrArg
	}
	if !Wide(n, 8*size) {
		return nil, api.ErrRange
	}
	b := make([]byte, size)
	for i := range size {
		b[i] = byte(n >> (8 * i))
	}
	return b, api.OK
}

// Get tells the number of bytes.
func Get(b []byte, at, size int, signed bool) (int, api.Errno) {
	if !sized(size) {
		return 0, api.ErrArg
	}
	if at < 0 || at > len(b) {
		return 0, api.ErrRange
	}
	// The difference, because at + size may wrap around.
	if len(b)-at < size {
		return 0, api.ErrCut
	}
	n := 0
	for i := range size {
		n |= int(b[at+i]) << (8 * i)
	}
	if signed {
		return Sign(n, 8*size), api.OK
	}
	return n, api.OK
}

// sized tells whether numbers may have so many bytes.
func sized(size int) bool {
	return size == 1 || size == 2 || size == 4 || size == 8
}
