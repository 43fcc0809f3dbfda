package field

import (
	"bytes"
	"math"
	"testing"

	"linotype/api"
)

// stands checks a cursor's place, its error, and its next byte (-1: none).
func stands(t *testing.T, c *Cursor, at int, err api.Errno, next int) {
	t.Helper()
	n, is := c.Peek()
	want := max(next, 0)
	if c.At() != at || c.Err() != err || n != want || is != (next >= 0) {
		t.Errorf("at %d, error %v, next %d, %v", c.At(), c.Err(), n, is)
	}
}

// P1.3: the example of the chapter.
func TestCursorExample(t *testing.T) {
	c := Open([]byte{7, 1, 0})
	stands(t, c, 0, api.OK, 7)
	if n := c.Byte(); n != 7 {
		t.Error(n)
	}
	if n := c.Int(2, false); n != 1 {
		t.Error(n)
	}
	stands(t, c, 3, api.OK, -1)
	if n := c.Byte(); n != 0 {
		t.Error(n)
	}
	stands(t, c, 3, api.ErrCut, -1)
}

// P1.3: Int reads each size, signed and unsigned (8 bytes always signed), and steps over it.
func TestCursorInt(t *testing.T) {
	for _, x := range []struct {
		size   int
		signed bool
		n      int
	}{
		{1, true, 0x82 - 1<<8},
		{1, false, 0x82},
		{2, true, 0x9382 - 1<<16},
		{2, false, 0x9382},
		{4, true, 0xb5a49382 - 1<<32},
		{4, false, 0xb5a49382},
		{8, true, 0xf9e8d7c6b5a49382 - 1<<64},
		{8, false, 0xf9e8d7c6b5a49382 - 1<<64},
	} {
		c := Open([]byte{0x82, 0x93, 0xa4, 0xb5, 0xc6, 0xd7, 0xe8, 0xf9, 0x7a})
		if n := c.Int(x.size, x.signed); n != x.n {
			t.Errorf("size %d, signed %v: %d", x.size, x.signed, n)
		}
		if c.At() != x.size || c.Err() != api.OK {
			t.Errorf("size %d: at %d, %v", x.size, c.At(), c.Err())
		}
	}
}

// P1.3: after an error nothing is read any more, though there are bytes.
func TestCursorStops(t *testing.T) {
	c := Open([]byte{1, 2, 3, 4})
	c.Byte()
	if n := c.Int(4, true); n != 0 {
		t.Error(n)
	}
	stands(t, c, 1, api.ErrCut, -1)
	if c.Byte() != 0 || c.Int(2, true) != 0 || c.Int(3, true) != 0 || c.Int(8, false) != 0 {
		t.Error("it reads after an error")
	}
	stands(t, c, 1, api.ErrCut, -1)
}

// P1.3: a size that there is not leaves all as it was.
func TestCursorWrongSize(t *testing.T) {
	for _, size := range wrongSizes() {
		c := Open([]byte{9, 8, 7, 6, 5, 4, 3, 2, 1})
		c.Byte()
		if n := c.Int(size, false); n != 0 {
			t.Errorf("size %d: %d", size, n)
		}
		stands(t, c, 1, api.OK, 8)
	}
}

// P1.3: Peek reads nothing, and its finding none is no error.
func TestCursorPeek(t *testing.T) {
	c := Open([]byte{0})
	for range 3 {
		stands(t, c, 0, api.OK, 0)
	}
	c.Byte()
	for range 3 {
		stands(t, c, 1, api.OK, -1)
	}
	stands(t, Open(nil), 0, api.OK, -1)
	stands(t, Open([]byte{}), 0, api.OK, -1)
}

// P1.3: a cursor has 15 bytes at the most; Byte reads them without a sign.
func TestCursorFirstBytes(t *testing.T) {
	for _, size := range []int{14, 15, 16, 40} {
		b := make([]byte, size)
		for i := range b {
			b[i] = byte(i + 200)
		}
		c := Open(b)
		have := min(size, api.MaxInst)
		for i := range have {
			if n := c.Byte(); n != i+200 {
				t.Errorf("byte %d: %d", i, n)
			}
		}
		stands(t, c, have, api.OK, -1)
		if n := c.Byte(); n != 0 {
			t.Error(n)
		}
		stands(t, c, have, api.ErrCut, -1)
	}
	c := Open(make([]byte, 16))
	c.Int(8, true)
	if c.Int(8, true); c.Err() != api.ErrCut || c.At() != 8 {
		t.Error(c.Err(), c.At())
	}
}

// Rule 4: bytes that are opened are not changed, nor looked at later; what lies beyond them is not read.
func TestCursorOwnBytes(t *testing.T) {
	b := []byte{1, 2, 3, 4}
	c := Open(b[:2])
	d := Open(b)
	b[0], b[1] = 50, 60
	if n := c.Int(2, false); n != 0x0201 {
		t.Error(n)
	}
	stands(t, c, 2, api.OK, -1)
	if n := d.Int(4, false); n != 0x04030201 {
		t.Error(n)
	}
	if !bytes.Equal(b, []byte{50, 60, 3, 4}) {
		t.Error(b)
	}
}

// P1.3: a copy of a cursor is one, and goes on by itself.
func TestCursorCopies(t *testing.T) {
	c := Open([]byte{1, 2, 3})
	c.Byte()
	d := *c
	c.Byte()
	stands(t, &d, 1, api.OK, 2)
	d.Int(8, true)
	stands(t, &d, 1, api.ErrCut, -1)
	stands(t, c, 2, api.OK, 3)
	e := d
	stands(t, &e, 1, api.ErrCut, -1)
	if c.Byte() != 3 || e.Byte() != 0 {
		t.Error("a copy's error is its own")
	}
	stands(t, c, 3, api.OK, -1)
}

// P1.3 and rule 5: a cursor that Open did not make.
func TestCursorInvalid(t *testing.T) {
	zero := Cursor{}
	again := zero
	for i, c := range []*Cursor{nil, new(Cursor), &zero, &again} {
		if c.Byte() != 0 || c.Int(1, true) != 0 || c.Int(3, true) != 0 || c.Int(math.MinInt, true) != 0 {
			t.Error(i, "reads")
		}
		stands(t, c, 0, api.ErrNil, -1)
	}
}

// P1.3 and P1.4: a cursor reads, one by one, what Put wrote.
func TestCursorReadsPut(t *testing.T) {
	for _, n := range numbers() {
		for _, size := range sizes() {
			if !Wide(n, 8*size) {
				continue
			}
			b, _ := Put(n, size)
			c := Open(append(append([]byte{77}, b...), 88))
			first, got, last := c.Byte(), c.Int(size, Fits(n, 8*size)), c.Byte()
			if first != 77 || got != n || last != 88 {
				t.Errorf("%d in %d bytes: %d, %d, %d", n, size, first, got, last)
			}
			stands(t, c, size+2, api.OK, -1)
		}
	}
}
