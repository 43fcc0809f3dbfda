package vex

import (
	"bytes"
	"testing"

	"linotype/api"
)

// asker tells a function that holds what bytes are read as against what the document says.
func asker(t *testing.T) func(b []byte) {
	l := written()
	told := func(b []byte) (api.Vex, int, api.Errno) {
		switch {
		case len(b) == 0:
			return api.Vex{}, 0, api.ErrCut
		case b[0] != 196 && b[0] != 197:
			return api.Vex{}, 0, api.ErrBytes
		case b[0] == 196 && len(b) > 1 && (b[1]%32 == 0 || b[1]%32 > 3):
			return api.Vex{}, 0, api.ErrBytes
		case b[0] == 196 && len(b) > 2:
			return l[string(b[:3])], 3, api.OK
		case b[0] == 197 && len(b) > 1:
			return l[string(b[:2])], 2, api.OK
		}
		return api.Vex{}, 0, api.ErrCut
	}
	return func(b []byte) {
		want, size, fault := told(b)
		if v, n, err := Read(b); v != want || n != size || err != fault {
			t.Fatalf("Read(%x) = %v, %d, %v, not %v, %d, %v", b, v, n, err, want, size, fault)
		}
	}
}

// P11.2: no bytes, all one byte and two, all three behind 196 and 197, and what follows them, which does not count.
func TestRead(t *testing.T) {
	ask := asker(t)
	ask(nil)
	ask([]byte{})
	for first := range 256 {
		ask([]byte{byte(first)})
		for second := range 256 {
			ask([]byte{byte(first), byte(second)})
			ask([]byte{byte(first), byte(second), 196})
			ask([]byte{byte(first), byte(second), 197, 0})
		}
	}
	for _, first := range []byte{195, 196, 197, 198} {
		for n := range 1 << 16 {
			ask([]byte{first, byte(n >> 8), byte(n)})
			ask([]byte{first, byte(n >> 8), byte(n), 197, 255})
		}
	}
}

// P11.2: what is read, and what is not, written out.
func TestReadWritten(t *testing.T) {
	for _, w := range []struct {
		b    []byte
		want api.Vex
		size int
		err  api.Errno
	}{
		{[]byte{197, 255}, api.Vex{Map: 1, L: 1, Pre: api.PreF2}, 2, api.OK}, {[]byte{197, 0}, api.Vex{R: 1, Map: 1, V: 15}, 2, api.OK},
		{[]byte{197, 128}, api.Vex{Map: 1, V: 15}, 2, api.OK}, {[]byte{197, 249}, api.Vex{Map: 1, Pre: api.PreSize}, 2, api.OK}, {[]byte{197, 250}, api.Vex{Map: 1, Pre: api.PreF3}, 2, api.OK},
		{[]byte{197, 240}, api.Vex{Map: 1, V: 1}, 2, api.OK}, {[]byte{197, 184}, api.Vex{Map: 1, V: 8}, 2, api.OK},
		{[]byte{196, 193, 120}, api.Vex{B: 1, Map: 1}, 3, api.OK}, {[]byte{196, 161, 120}, api.Vex{X: 1, Map: 1}, 3, api.OK}, {[]byte{196, 97, 120}, api.Vex{R: 1, Map: 1}, 3, api.OK},
		{[]byte{196, 225, 248}, api.Vex{Map: 1, W: 1}, 3, api.OK}, {[]byte{196, 225, 124}, api.Vex{Map: 1, L: 1}, 3, api.OK}, {[]byte{196, 227, 121, 12}, api.Vex{Map: 3, Pre: api.PreSize}, 3, api.OK},
		{[]byte{196, 2, 135}, api.Vex{R: 1, X: 1, B: 1, Map: 2, W: 1, V: 15, L: 1, Pre: api.PreF2}, 3, api.OK},
		{[]byte{196}, api.Vex{}, 0, api.ErrCut}, {[]byte{196, 225}, api.Vex{}, 0, api.ErrCut}, {[]byte{196, 226}, api.Vex{}, 0, api.ErrCut}, {[]byte{196, 227}, api.Vex{}, 0, api.ErrCut},
		{[]byte{196, 224}, api.Vex{}, 0, api.ErrBytes}, {[]byte{196, 228, 120}, api.Vex{}, 0, api.ErrBytes}, {[]byte{196, 241}, api.Vex{}, 0, api.ErrBytes}, {[]byte{196, 233, 120}, api.Vex{}, 0, api.ErrBytes},
		{[]byte{195, 225, 120}, api.Vex{}, 0, api.ErrBytes}, {[]byte{198, 225}, api.Vex{}, 0, api.ErrBytes}, {[]byte{0}, api.Vex{}, 0, api.ErrBytes}, {[]byte{102, 197, 248}, api.Vex{}, 0, api.ErrBytes},
	} {
		if v, n, err := Read(w.b); v != w.want || n != w.size || err != w.err {
			t.Errorf("Read(%v) = %v, %d, %v, not %v, %d, %v", w.b, v, n, err, w.want, w.size, w.err)
		}
	}
}

// Rule 4 of the document: bytes that are read stay as they are, and their spare capacity isn't read.
func TestArgument(t *testing.T) {
	ask := asker(t)
	for _, v := range valid() {
		for _, way := range ways(v, true) {
			whole := []byte(way + "\xc4\xe1\x78")
			before := bytes.Clone(whole)
			for size := range len(whole) + 1 {
				ask(whole[:size])
			}
			if !bytes.Equal(whole, before) {
				t.Errorf("%x has become %x", before, whole)
			}
		}
	}
}
