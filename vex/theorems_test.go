package vex

import (
	"slices"
	"strings"
	"testing"

	"linotype/api"
)

// P11.3: each encoding is read as its contents, apart from W if any is true, whatever follows.
func TestLaidIsRead(t *testing.T) {
	for _, v := range valid() {
		for _, any := range []bool{false, true} {
			l, err := All(v, any)
			if err != api.OK {
				t.Fatal(v, err)
			}
			for _, b := range l {
				got, size, err := Read(append(slices.Clone(b), 196, 0))
				if any {
					got.W = v.W
				}
				if got != v || size != len(b) || err != api.OK {
					t.Errorf("%v is laid as %x, which is read as %v, %d, %v", v, b, got, size, err)
				}
			}
		}
	}
}

// P11.3: what is read is encoded in one of these ways.
func TestReadIsLaid(t *testing.T) {
	found := 0
	for _, first := range []byte{196, 197} {
		for n := range 1 << 16 {
			b := []byte{first, byte(n >> 8), byte(n)}
			v, size, err := Read(b)
			if err != api.OK {
				continue
			}
			found++
			for _, any := range []bool{false, true} {
				if l, err := All(v, any); err != api.OK || !slices.Contains(texts(l), string(b[:size])) {
					t.Errorf("%x is read as %v, and laid as %x, %v", b[:size], v, l, err)
				}
			}
		}
	}
	if found != 8*3*256+256*256 {
		t.Error(found)
	}
}

// P11.3: no encoding is the beginning of another one, and no two contents have the same one.
func TestNoBeginning(t *testing.T) {
	seen := map[string]api.Vex{}
	var all []string
	for _, v := range valid() {
		l, _ := All(v, false)
		for _, b := range texts(l) {
			if w, is := seen[b]; is {
				t.Errorf("%x is both %v and %v", b, v, w)
			}
			seen[b] = v
			all = append(all, b)
		}
	}
	// In their order, one that begins another one stands right ahead of such a one.
	slices.Sort(all)
	for i, b := range all[1:] {
		if strings.HasPrefix(b, all[i]) {
			t.Errorf("%x begins %x", all[i], b)
		}
	}
}

// P11.1, P11.2: the examples of the chapter.
func TestExamples(t *testing.T) {
	if l, err := All(api.Vex{Map: 1}, false); err != api.OK || !slices.Equal(texts(l), []string{"\xc5\xf8", "\xc4\xe1\x78"}) {
		t.Error(l, err)
	}
	if l, err := All(api.Vex{Map: 2, V: 3, L: 1, Pre: api.PreSize}, true); err != api.OK || !slices.Equal(texts(l), []string{"\xc4\xe2\x65", "\xc4\xe2\xe5"}) {
		t.Error(l, err)
	}
	for _, w := range []struct {
		b    []byte
		want api.Vex
		size int
		err  api.Errno
	}{
		{[]byte{197, 248}, api.Vex{Map: 1}, 2, api.OK}, {[]byte{196, 225, 120}, api.Vex{Map: 1}, 3, api.OK},
		{[]byte{197}, api.Vex{}, 0, api.ErrCut}, {[]byte{15}, api.Vex{}, 0, api.ErrBytes}, {[]byte{196, 228}, api.Vex{}, 0, api.ErrBytes},
	} {
		if v, size, err := Read(w.b); v != w.want || size != w.size || err != w.err {
			t.Errorf("Read(%v) = %v, %d, %v", w.b, v, size, err)
		}
	}
}
