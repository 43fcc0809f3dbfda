package field

import "linotype/api"

// Cursor reads bytes. Open makes it.
type Cursor struct {
	// An array, not a slice: a copy of a cursor has bytes of its own, and what was opened may change.
	b    [api.MaxInst]byte
	size int
	at   int
	err  api.Errno
	// The zero Cursor must differ from one that was opened on no bytes.
	opened bool
}

// stop is what a cursor panics with: one place makes its error of it.
type stop struct{ err api.Errno }

// Open makes a cursor on the first bytes, as many as an instruction may have.
func Open(b []byte) *Cursor {
	c := &Cursor{opened: true}
	c.size = copy(c.b[:], b)
	return c
}

// Int reads a number.
func (c *Cursor) Int(size int, signed bool) int {
	if !c.reads() || !sized(size) {
		return 0
	}
	return c.caught(size, signed)
}

// Byte reads a byte.
func (c *Cursor) Byte() int {
	return c.Int(1, false)
}

// Peek tells the next byte, and leaves it unread.
func (c *Cursor) Peek() (int, bool) {
	if !c.reads() || c.at >= c.size {
		return 0, false
	}
	return int(c.b[c.at]), true
}

// At tells where it stands.
func (c *Cursor) At() int {
	if !c.valid() {
		return 0
	}
	return c.at
}

// Err tells its error.
func (c *Cursor) Err() api.Errno {
	if !c.valid() {
		return api.ErrNil
	}
	return c.err
}

// valid tells whether Open made it, or what it is a copy of.
func (c *Cursor) valid() bool {
	return c != nil && c.opened
}

// reads tells whether it may go on.
func (c *Cursor) reads() bool {
	return c.valid() && c.err == api.OK
}

// caught takes a number; where that stops, the cursor keeps the error, and the answer is 0.
func (c *Cursor) caught(size int, signed bool) (n int) {
	defer func() {
		switch r := recover().(type) {
		case nil:
		case stop:
			c.err = r.err
		default:
			panic(r)
		}
	}()
	return c.take(size, signed)
}

// take reads a number and steps over it, or stops where it stands.
func (c *Cursor) take(size int, signed bool) int {
	n, err := Get(c.b[:c.size], c.at, size, signed)
	if err != api.OK {
		panic(stop{err})
	}
	c.at += size
	return n
}
