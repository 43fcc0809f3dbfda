package field

import (
	"bytes"
	"math"
	"testing"

	"linotype/api"
)

func sizes() []int {
	return []int{1, 2, 4, 8}
}

func wrongSizes() []int {
	return []int{math.MinInt, -8, -1, 0, 3, 5, 6, 7, 9, 16, 1 << 61, math.MaxInt}
}

// P1.2: Put, with its examples and the edges of each size.
func TestPut(t *testing.T) {
	for _, x := range []struct {
		n, size int
		b       []byte
		err     api.Errno
	}{
		{258, 2, []byte{2, 1}, api.OK},
		{-2, 2, []byte{254, 255}, api.OK},
		{65536, 2, nil, api.ErrRange},
		{1, 3, nil, api.ErrArg},
		{0, 1, []byte{0}, api.OK},
		{255, 1, []byte{255}, api.OK},
		{256, 1, nil, api.ErrRange},
		{-128, 1, []byte{128}, api.OK},
		{-129, 1, nil, api.ErrRange},
		{65535, 2, []byte{255, 255}, api.OK},
		{-32768, 2, []byte{0, 128}, api.OK},
		{-32769, 2, nil, api.ErrRange},
		{0x12345678, 4, []byte{0x78, 0x56, 0x34, 0x12}, api.OK},
		{1<<32 - 1, 4, []byte{255, 255, 255, 255}, api.OK},
		{1 << 32, 4, nil, api.ErrRange},
		{-1 << 31, 4, []byte{0, 0, 0, 128}, api.OK},
		{-1<<31 - 1, 4, nil, api.ErrRange},
		{0x0123456789abcdef, 8, []byte{0xef, 0xcd, 0xab, 0x89, 0x67, 0x45, 0x23, 0x01}, api.OK},
		{math.MaxInt, 8, []byte{255, 255, 255, 255, 255, 255, 255, 127}, api.OK},
		{math.MinInt, 8, []byte{0, 0, 0, 0, 0, 0, 0, 128}, api.OK},
		{-1, 8, []byte{255, 255, 255, 255, 255, 255, 255, 255}, api.OK},
	} {
		b, err := Put(x.n, x.size)
		if !bytes.Equal(b, x.b) || err != x.err {
			t.Errorf("Put(%d, %d) = %v, %v", x.n, x.size, b, err)
		}
	}
}

// P1.2: there is no such size, whatever the number is, also one that would be out of range.
func TestPutWrongSize(t *testing.T) {
	for _, size := range wrongSizes() {
		for _, n := range []int{0, 1, -1, 65536, math.MinInt, math.MaxInt} {
			if b, err := Put(n, size); b != nil || err != api.ErrArg {
				t.Errorf("Put(%d, %d) = %v, %v", n, size, b, err)
			}
		}
	}
}

// P1.2: what Put returns is new memory each time.
func TestPutNew(t *testing.T) {
	a, _ := Put(0x0102, 2)
	b, _ := Put(0x0102, 2)
	for i := range a[:cap(a)] {
		a[:cap(a)][i] = 99
	}
	if !bytes.Equal(b, []byte{2, 1}) {
		t.Error(b)
	}
}

// P1.2: Get, with its examples and edges.
func TestGet(t *testing.T) {
	nine := []byte{1, 2, 3, 4, 5, 6, 7, 8, 249}
	for i, x := range []struct {
		b        []byte
		at, size int
		signed   bool
		n        int
		err      api.Errno
	}{
		{[]byte{1, 254, 255}, 1, 2, true, -2, api.OK},
		{[]byte{1, 254, 255}, 1, 2, false, 65534, api.OK},
		{[]byte{1}, 0, 2, false, 0, api.ErrCut},
		{[]byte{1}, 2, 1, false, 0, api.ErrRange},
		{nine, 0, 1, false, 1, api.OK},
		{nine, 8, 1, true, -7, api.OK},
		{nine, 8, 1, false, 249, api.OK},
		{nine, 5, 4, false, 0xf9080706, api.OK},
		{nine, 5, 4, true, -0x06f7f8fa, api.OK},
		{nine, 0, 8, false, 0x0807060504030201, api.OK},
		{nine, 1, 8, true, -0x06f7f8f9fafbfcfe, api.OK},
		{nine, 1, 8, false, -0x06f7f8f9fafbfcfe, api.OK},
		{nine, 2, 8, true, 0, api.ErrCut},
		{nine, 9, 1, false, 0, api.ErrCut},
		{nine, 9, 8, false, 0, api.ErrCut},
		{nine, 10, 1, false, 0, api.ErrRange},
		{nine, 10, 8, false, 0, api.ErrRange},
		{nine, -1, 1, false, 0, api.ErrRange},
		{nine, math.MaxInt, 8, false, 0, api.ErrRange},
		{nine, math.MinInt, 8, false, 0, api.ErrRange},
		{nil, 0, 1, true, 0, api.ErrCut},
		{nil, 1, 1, true, 0, api.ErrRange},
		{nine[:1:9], 0, 2, false, 0, api.ErrCut},
		{nine[:1:9], 2, 1, false, 0, api.ErrRange},
	} {
		n, err := Get(x.b, x.at, x.size, x.signed)
		if n != x.n || err != x.err {
			t.Errorf("row %d: %d, %v", i, n, err)
		}
	}
	if !bytes.Equal(nine, []byte{1, 2, 3, 4, 5, 6, 7, 8, 249}) {
		t.Error("the bytes were changed")
	}
}

// P1.2: there is no such size, ahead of any other error.
func TestGetWrongSize(t *testing.T) {
	b := make([]byte, 20)
	for _, size := range wrongSizes() {
		for _, at := range []int{0, 19, 20, 21, -1, math.MinInt, math.MaxInt} {
			if n, err := Get(b, at, size, true); n != 0 || err != api.ErrArg {
				t.Errorf("Get at %d, size %d = %d, %v", at, size, n, err)
			}
		}
	}
}

// P1.4: what Put returns is read by Get, signed or unsigned.
func TestPutIsRead(t *testing.T) {
	for _, size := range sizes() {
		for _, n := range numbers() {
			b, err := Put(n, size)
			if wide := Wide(n, 8*size); wide != (err == api.OK) {
				t.Errorf("Put(%d, %d): %v", n, size, err)
			}
			if err != api.OK {
				continue
			}
			if len(b) != size {
				t.Errorf("Put(%d, %d): %d bytes", n, size, len(b))
			}
			signed, err1 := Get(b, 0, size, true)
			unsigned, err2 := Get(b, 0, size, false)
			if err1 != api.OK || err2 != api.OK {
				t.Errorf("Get(Put(%d, %d)): %v, %v", n, size, err1, err2)
			}
			if signed != Sign(n, 8*size) || unsigned != Low(n, 8*size) || signed != n && unsigned != n {
				t.Errorf("Get(Put(%d, %d)) = %d, %d", n, size, signed, unsigned)
			}
		}
	}
}
