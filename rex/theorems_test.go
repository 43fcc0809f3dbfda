package rex

import (
	"bytes"
	"testing"

	"linotype/api"
)

// P10.3: what is encoded is read, alone and ahead of any byte that is none of these, whatever follows that.
func TestLaidIsRead(t *testing.T) {
	for s := range known() {
		b, err := Lay(s.pre, s.rex)
		if err != api.OK {
			t.Fatal(s, err)
		}
		ask := func(more ...byte) {
			if pre, rex, size := Read(append(bytes.Clone(b), more...)); pre != s.pre || rex != s.rex || size != len(b) {
				t.Errorf("%v is laid as %x, and read ahead of %x as %d, %d, %d", s, b, more, pre, rex, size)
			}
		}
		ask()
		for next := range 256 {
			c := byte(next)
			if c == 102 || c == 242 || c == 243 || c >= 64 && c <= 79 {
				continue
			}
			ask(c)
			for _, behind := range marks() {
				ask(c, behind, 72)
			}
		}
	}
}

// P10.3: what is read is encoded as these bytes.
func TestReadIsLaid(t *testing.T) {
	for _, ahead := range legacy() {
		for first := range 256 {
			for second := range 256 {
				b := append([]byte(ahead), byte(first), byte(second))
				pre, rex, size := Read(b)
				if got, err := Lay(pre, rex); err != api.OK || !bytes.Equal(got, b[:size]) {
					t.Errorf("%x is read as %d, %d, %d, and laid as %x, %v", b, pre, rex, size, got, err)
				}
			}
		}
	}
}

// P10.1, P10.3: the bits of a REX, and the REX of bits, are each other's opposites.
func TestBitsAndRex(t *testing.T) {
	for n := range 16 {
		if rex := Rex(Bits(n)); rex != n {
			t.Errorf("the bits of %d are those of %d", n, rex)
		}
	}
}

// P10.1, P10.2: the examples of the chapter.
func TestExamples(t *testing.T) {
	for _, w := range []struct {
		pre, rex int
		want     string
		err      api.Errno
	}{
		{0, -1, "", api.OK}, {1, 8, "\x66\x48", api.OK}, {5, -1, "\x66\xf3", api.OK}, {6, 0, "", api.ErrArg}, {0, 16, "", api.ErrRange},
	} {
		if b, err := Lay(w.pre, w.rex); string(b) != w.want || err != w.err {
			t.Errorf("Lay(%d, %d) = %v, %v", w.pre, w.rex, b, err)
		}
	}
	for _, w := range []struct {
		b              []byte
		pre, rex, size int
	}{
		{[]byte{102, 243, 65, 15}, 5, 1, 3}, {[]byte{243, 102}, 4, -1, 1}, {[]byte{65, 64}, 0, 1, 1}, {nil, 0, -1, 0},
	} {
		if pre, rex, size := Read(w.b); pre != w.pre || rex != w.rex || size != w.size {
			t.Errorf("Read(%v) = %d, %d, %d", w.b, pre, rex, size)
		}
	}
	if n := Rex(1, 0, 0, 1); n != 9 {
		t.Error(n)
	}
	if w, r, x, b := Bits(13); w != 1 || r != 1 || x != 0 || b != 1 {
		t.Error(w, r, x, b)
	}
	if n := Rex(2, 0, 0, 0); n != -1 {
		t.Error(n)
	}
}
