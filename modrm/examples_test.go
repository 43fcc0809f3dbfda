package modrm

import (
	"testing"

	"linotype/api"
)

// P9.1, P9.2: the examples of the chapter.
func TestExamples(t *testing.T) {
	for _, w := range []struct {
		middle int
		a      api.Arg
		want   []api.Laid
	}{
		{2, api.Arg{Kind: api.ArgReg, R: api.Reg{Class: api.R32, N: 1}}, []api.Laid{{Bytes: []byte{209}}}},
		{0, place(api.Mem{Base: rax}), []api.Laid{
			{Bytes: []byte{0}}, {Bytes: []byte{64, 0}}, {Bytes: []byte{128, 0, 0, 0, 0}},
			{Bytes: []byte{4, 32}}, {Bytes: []byte{68, 32, 0}}, {Bytes: []byte{132, 32, 0, 0, 0, 0}},
			{Bytes: []byte{4, 5, 0, 0, 0, 0}},
		}},
		{0, place(api.Mem{Base: rip, Disp: 2}), []api.Laid{{Bytes: []byte{5, 2, 0, 0, 0}}}},
		{0, place(api.Mem{Index: rcx, Scale: 4}), []api.Laid{{Bytes: []byte{4, 141, 0, 0, 0, 0}}}},
	} {
		if got, err := All(w.middle, w.a); err != api.OK || !same(got, w.want) {
			t.Errorf("All(%d, %+v) = %v, %v", w.middle, w.a, got, err)
		}
	}
	if l, err := All(1, place(api.Mem{Base: r12, Disp: 1})); err != api.OK || !same(l[:1], []api.Laid{{Bytes: []byte{76, 36, 1}, B: 1}}) {
		t.Error(l, err)
	}
	if l, err := All(0, place(api.Mem{Base: rbp})); err != api.OK || !same(l[:1], []api.Laid{{Bytes: []byte{69, 0}}}) {
		t.Error(l, err)
	}
	for _, w := range []struct {
		b    []byte
		x    int
		want api.Seen
		err  api.Errno
	}{
		{[]byte{68, 32, 5}, 0, api.Seen{Reg: -1, M: api.Mem{Base: rax, Disp: 5}, Ends: 3}, api.OK},
		{[]byte{68, 96, 5}, 0, api.Seen{}, api.ErrBytes},
		{[]byte{5, 0, 0}, 0, api.Seen{}, api.ErrCut},
		{[]byte{0}, 1, api.Seen{}, api.ErrBytes},
	} {
		if got, err := Read(w.b, 0, w.x, 0); got != w.want || err != w.err {
			t.Errorf("Read(%v, 0, %d, 0) = %+v, %v", w.b, w.x, got, err)
		}
	}
}
