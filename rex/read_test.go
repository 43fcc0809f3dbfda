package rex

import (
	"bytes"
	"slices"
	"testing"
)

// told tells what bytes begin with by the document's words: of all prefixes that are written as their beginning the longest.
func told(l map[string]set, b []byte) (set, int) {
	for size := min(len(b), 3); ; size-- {
		if s, is := l[string(b[:size])]; is {
			return s, size
		}
	}
}

// reader tells a function that holds what bytes are read as against what the document says.
func reader(t *testing.T) func(b []byte) {
	l := written()
	return func(b []byte) {
		want, size := told(l, b)
		if pre, rex, n := Read(b); pre != want.pre || rex != want.rex || n != size {
			t.Fatalf("Read(%x) = %d, %d, %d, not %v, %d", b, pre, rex, n, want, size)
		}
	}
}

// P10.2: no bytes, all one byte and two, and all these behind any legacy prefixes.
func TestRead(t *testing.T) {
	ask := reader(t)
	ask(nil)
	ask([]byte{})
	for _, ahead := range legacy() {
		for first := range 256 {
			ask(append([]byte(ahead), byte(first)))
			for second := range 256 {
				ask(append([]byte(ahead), byte(first), byte(second)))
			}
		}
	}
}

// marks tells bytes that matter to prefixes, and some beside them.
func marks() []byte {
	return []byte{0x00, 0x0f, 0x3f, 0x40, 0x41, 0x48, 0x4f, 0x50, 0x65, 0x66, 0x67, 0xc4, 0xc5, 0xf0, 0xf1, 0xf2, 0xf3, 0xf4, 0xff}
}

// P10.2: bytes that occur again, or out of their order, among all texts of up to four bytes that matter.
func TestOrder(t *testing.T) {
	ask := reader(t)
	b := make([]byte, 4)
	for n := range len(marks()) * len(marks()) * len(marks()) * len(marks()) {
		for i := range b {
			b[i] = marks()[n%len(marks())]
			n /= len(marks())
		}
		ask(b)
	}
}

// P10.2: where prefixes end, written out.
func TestEnds(t *testing.T) {
	for _, w := range []struct {
		b    []byte
		want set
		size int
	}{
		{[]byte{102, 102}, set{1, -1}, 1}, {[]byte{102, 102, 72}, set{1, -1}, 1}, {[]byte{102, 242, 102}, set{3, -1}, 2}, {[]byte{102, 242, 102, 72}, set{3, -1}, 2},
		{[]byte{242, 102, 72}, set{2, -1}, 1}, {[]byte{243, 102}, set{4, -1}, 1}, {[]byte{242, 242, 64}, set{2, -1}, 1}, {[]byte{243, 243, 64}, set{4, -1}, 1},
		{[]byte{242, 243, 64}, set{2, -1}, 1}, {[]byte{243, 242, 64}, set{4, -1}, 1}, {[]byte{102, 243, 242, 64}, set{5, -1}, 2},
		{[]byte{64, 64}, set{0, 0}, 1}, {[]byte{79, 64, 102}, set{0, 15}, 1}, {[]byte{72, 102, 15}, set{0, 8}, 1}, {[]byte{72, 242, 15}, set{0, 8}, 1}, {[]byte{102, 72, 243, 15}, set{1, 8}, 2},
		{[]byte{63}, set{0, -1}, 0}, {[]byte{64}, set{0, 0}, 1}, {[]byte{79}, set{0, 15}, 1}, {[]byte{80}, set{0, -1}, 0}, {[]byte{102, 80}, set{1, -1}, 1},
		{[]byte{101, 102}, set{0, -1}, 0}, {[]byte{103}, set{0, -1}, 0}, {[]byte{241}, set{0, -1}, 0}, {[]byte{244}, set{0, -1}, 0}, {[]byte{240, 242}, set{0, -1}, 0}, {[]byte{15, 102, 64}, set{0, -1}, 0},
		{[]byte{196, 64}, set{0, -1}, 0}, {[]byte{102}, set{1, -1}, 1}, {[]byte{102, 242, 72}, set{3, 8}, 3}, {[]byte{102, 243, 79, 79, 79}, set{5, 15}, 3},
	} {
		if pre, rex, size := Read(w.b); pre != w.want.pre || rex != w.want.rex || size != w.size {
			t.Errorf("Read(%v) = %d, %d, %d, not %v, %d", w.b, pre, rex, size, w.want, w.size)
		}
	}
}

// Rule 4 of the document: bytes that are read stay as they are, and their spare capacity isn't read.
func TestArgument(t *testing.T) {
	for s, b := range known() {
		whole := []byte(b + "\x66\xf2\x48")
		for size := range len(b) + 1 {
			before := bytes.Clone(whole)
			_, _, n := Read(whole[:size])
			if n > size || !slices.Equal(whole, before) {
				t.Errorf("Read of %d bytes of %v: %d, %x", size, s, n, whole)
			}
		}
	}
}
