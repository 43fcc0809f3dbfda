package mem

import (
	"math"
	"math/big"
	"slices"
	"testing"

	"linotype/api"
)

// contained tells what sixteen registers contain, in some ways: small numbers, bounds, numbers whose sums and multiples leave 64 bits.
func contained() [][]int {
	zeros, rising, bounds, highs, mixed := make([]int, 16), make([]int, 16), make([]int, 16), make([]int, 16), make([]int, 16)
	for i := range 16 {
		rising[i] = 1000003 * (i + 1)
		bounds[i] = []int{math.MaxInt, math.MinInt, math.MaxInt - 1, -1}[i%4]
		highs[i] = 1<<62 + 1<<(i+40) + i
		mixed[i] = (i + 1) * -0x61c8864680b583eb
	}
	return [][]int{zeros, rising, bounds, highs, mixed}
}

// begins tells where the next instruction begins, in some ways.
func begins() []int {
	return []int{0, 100, -1, math.MaxInt, math.MinInt, 1 << 47}
}

// summed tells the address of a valid place, by integers of any size that are taken modulo 2^64 at the end.
func summed(m api.Mem, regs []int, next int) int {
	total := big.NewInt(int64(m.Disp))
	switch m.Base.Class {
	case api.R64:
		total.Add(total, big.NewInt(int64(regs[m.Base.N])))
	case api.RIP:
		total.Add(total, big.NewInt(int64(next)))
	}
	if m.Index.Class == api.R64 {
		total.Add(total, new(big.Int).Mul(big.NewInt(int64(m.Scale)), big.NewInt(int64(regs[m.Index.N]))))
	}
	all := new(big.Int).Lsh(big.NewInt(1), 64)
	total.Mod(total, all)
	if total.Bit(63) == 1 {
		total.Sub(total, all)
	}
	return int(total.Int64())
}

// P5.2: the addresses of all valid places; P5.3: that of the canonical form is the same one.
func TestAddress(t *testing.T) {
	for m, canon := range known() {
		for i, disp := range edges() {
			m.Disp, m.Size = disp, sizes()[i%7]
			canon.Disp, canon.Size = m.Disp, m.Size
			for k, regs := range contained() {
				next := begins()[(i+k)%6]
				want := summed(m, regs, next)
				if got, err := Address(m, regs, next); got != want || err != api.OK {
					t.Fatalf("Address(%+v, %v, %d) = %d, %v, not %d", m, regs, next, got, err, want)
				}
				if got, err := Address(canon, regs, next); got != want || err != api.OK {
					t.Fatalf("Address(%+v, %v, %d) = %d, %v, not %d", canon, regs, next, got, err, want)
				}
			}
		}
	}
}

// P5.3: a canonical form is valid, and is its own.
func TestCanonIsItsOwn(t *testing.T) {
	for m := range known() {
		for i, disp := range edges() {
			m.Disp, m.Size = disp, sizes()[i%7]
			canon, _ := Canon(m)
			again, err := Canon(canon)
			if Check(canon) != api.OK || again != canon || err != api.OK || !Same(m, canon) || !Same(canon, m) {
				t.Errorf("%+v: %+v, %+v", m, canon, again)
			}
		}
	}
}

// P5.3: places that are the same have the same address.
func TestSameAddress(t *testing.T) {
	places, regs, pairs := known(), contained()[4], 0
	for a := range places {
		for b := range places {
			if a == b || !Same(a, b) {
				continue
			}
			pairs++
			first, err := Address(a, regs, 7)
			second, bad := Address(b, regs, 7)
			if first != second || err != api.OK || bad != api.OK {
				t.Errorf("%+v: %d, %+v: %d", a, first, b, second)
			}
		}
	}
	// [r * 1] and [r] for sixteen registers, [r + rsp * 1] and [rsp + r * 1] for fifteen, both ways.
	if pairs != 62 {
		t.Errorf("%d pairs", pairs)
	}
}

// P5.2: registers that are not sixteen, also where there is room for more of them.
func TestAddressCount(t *testing.T) {
	room := make([]int, 16, 40)
	for _, m := range []api.Mem{{}, {Base: rip, Disp: 3}, {Base: rbx}, {Base: r64(15), Index: rcx, Scale: 4}} {
		for count := range 40 {
			if count == 16 {
				continue
			}
			if got, err := Address(m, room[:count], 100); got != 0 || err != api.ErrArg {
				t.Errorf("Address(%+v, %d registers) = %d, %v", m, count, got, err)
			}
		}
		if got, err := Address(m, nil, 100); got != 0 || err != api.ErrArg {
			t.Errorf("Address(%+v, nil) = %d, %v", m, got, err)
		}
	}
}

// P5.2: what Check says goes first, whether the registers are sixteen or not.
func TestAddressWrong(t *testing.T) {
	for _, count := range []int{0, 15, 16, 17} {
		regs := slices.Repeat([]int{5}, count)
		for _, w := range []struct {
			m   api.Mem
			err api.Errno
		}{
			{api.Mem{Disp: 1 << 31}, api.ErrRange}, {api.Mem{Disp: -1<<31 - 1, Size: 3}, api.ErrRange}, {api.Mem{Base: rip, Disp: math.MaxInt}, api.ErrRange},
			{api.Mem{Size: 3}, api.ErrArg}, {api.Mem{Base: r64(16)}, api.ErrArg}, {api.Mem{Base: r64(-1)}, api.ErrArg}, {api.Mem{Base: rbx, Index: r64(16), Scale: 1}, api.ErrArg},
			{api.Mem{Base: rip, Index: rax, Scale: 1}, api.ErrArg}, {api.Mem{Index: rcx, Scale: 3}, api.ErrArg}, {api.Mem{Base: api.Reg{Class: api.RIP, N: 1}}, api.ErrArg},
		} {
			if got, err := Address(w.m, regs, 9); got != 0 || err != w.err {
				t.Errorf("Address(%+v, %d registers) = %d, %v, not %v", w.m, count, got, err, w.err)
			}
		}
	}
}

// P5.2: what the registers contain stays as it is, also behind them.
func TestAddressKeeps(t *testing.T) {
	regs := make([]int, 40)
	for i := range regs {
		regs[i] = i + 100
	}
	kept := slices.Clone(regs)
	for m := range known() {
		Address(m, regs[10:26], 5)
	}
	if !slices.Equal(regs, kept) {
		t.Error(regs)
	}
}

// The document's examples of Address.
func TestAddressExamples(t *testing.T) {
	regs := make([]int, 16)
	regs[3], regs[1] = 10, 5
	if got, err := Address(api.Mem{Base: rbx, Index: rcx, Scale: 4, Disp: -1}, regs, 0); got != 29 || err != api.OK {
		t.Error(got, err)
	}
	if got, err := Address(api.Mem{Base: rip, Disp: 3}, regs, 100); got != 103 || err != api.OK {
		t.Error(got, err)
	}
	if got, err := Address(api.Mem{Disp: -7}, regs, 100); got != -7 || err != api.OK {
		t.Error(got, err)
	}
}
