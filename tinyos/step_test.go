package tinyos_test

import (
	"math"
	"math/big"
	"math/rand/v2"
	"slices"
	"testing"

	"tinyos/api"
	"tinyos/tinyos"
)

const (
	codeStart = 0x100
	regsStart = 0x400 // where the numbers stand that the registers begin with
)

// setting sets all registers to the numbers at regsStart.
func setting() []api.Instr {
	list := []api.Instr{{Op: api.Li, A: 0, Imm: regsStart}}
	for n := 1; n < 16; n++ {
		list = append(list, api.Instr{Op: api.Ld, A: n, B: 0, Imm: int16(8 * n)})
	}
	return append(list, api.Instr{Op: api.Ld, A: 0, B: 0, Imm: 0})
}

// bootWith boots a kernel whose process 1 has set its registers, and does this code then.
func bootWith(t *testing.T, regs [16]uint64, code []byte, segs ...seg) *tinyos.Kernel {
	t.Helper()
	numbers := make([]byte, 128)
	for i, n := range regs {
		put(numbers, 8*i, 8, n)
	}
	all := append([]seg{
		{perm: 5, addr: codeStart, data: slices.Concat(instrs(t, setting()...), code)},
		{perm: 4, addr: regsStart, data: numbers},
	}, segs...)
	k := boot(t, program(codeStart, all...))
	for range setting() {
		step(t, k)
	}
	if p := k.Procs()[0]; p.Regs != regs || p.State != api.Ready {
		t.Fatalf("P18: registers %x, want %x", p.Regs, regs)
	}
	return k
}

func step(t *testing.T, k *tinyos.Kernel) {
	t.Helper()
	if err := k.Step(1); err != nil {
		t.Fatalf("P18: Step: %v", err)
	}
}

// checkTrap asks for a zombie with this status, that was this process.
func checkTrap(t *testing.T, k *tinyos.Kernel, was api.Proc, status int) {
	t.Helper()
	files := k.Files()
	was.State, was.Status, was.Pages, was.Fds = api.Zombie, status, nil, nil
	if got := k.Procs(); len(got) != 1 || !sameProc(got[0], was) {
		t.Fatalf("P18: after a trap %s, want %s", brief(got[0]), brief(was))
	}
	bytes := 0
	for _, f := range files {
		bytes += len(f.Bytes)
	}
	if got, want := k.Used(), (api.Limits{Procs: 1, Inodes: len(files) + 1, Bytes: bytes}); got != want {
		t.Fatalf("P18: after a trap %+v is used, want %+v", got, want)
	}
	want := tellAll(k)
	if err := k.Step(1); api.Tell(err) != api.ErrState || !tellAll(k).same(want) {
		t.Fatalf("P18: Step of a zombie: %v, want ErrState and no change", err)
	}
}

// checkOne has an instruction done, and asks for what becomes of the process.
func checkOne(t *testing.T, regs [16]uint64, i api.Instr, want func(p *api.Proc)) {
	t.Helper()
	k := bootWith(t, regs, instrs(t, i))
	p := k.Procs()[0]
	want(&p)
	step(t, k)
	if got := k.Procs(); len(got) != 1 || !sameProc(got[0], p) {
		t.Errorf("P18: %+v with %x and %x: %s, want %s", i, regs[i.A], regs[i.B], brief(got[0]), brief(p))
	}
}

// someRegs are numbers that are all different, with these two in A and B.
func someRegs(i api.Instr, a, b uint64) [16]uint64 {
	var regs [16]uint64
	for n := range regs {
		regs[n] = 0x1111111111111111*uint64(n) + 0x0f1e2d3c4b5a6978
	}
	regs[i.B] = b
	regs[i.A] = a // the one that counts, if both are the same register
	return regs
}

var edges = []uint64{
	0, 1, 2, 3, 10, 62, 63, 64, 65, 127, 128, 255, 256, 1 << 31, 1 << 32, 1<<32 + 1, 1 << 62, math.MaxInt64 - 1, math.MaxInt64,
	1 << 63, 1<<63 + 1, math.MaxUint64 - 1, math.MaxUint64, 0x0123456789abcdef, 0xfedcba9876543210,
}

var imms = []int16{0, 1, -1, 4, -4, 77, 0x100, -0x100, math.MaxInt16, math.MinInt16}

// wrapped is a number's lowest 64 bits.
func wrapped(n *big.Int) uint64 {
	return new(big.Int).And(n, new(big.Int).SetUint64(math.MaxUint64)).Uint64()
}

// compute tells what becomes of A, by numbers that have as many bits as they need.
func compute(op api.Op, a, b uint64, imm int16) uint64 {
	x, y, z := new(big.Int).SetUint64(a), new(big.Int).SetUint64(b), big.NewInt(int64(imm))
	r := new(big.Int)
	places := uint(b & 63)
	switch op {
	case api.Li:
		r.Set(z)
	case api.Move:
		r.Set(y)
	case api.Addi:
		r.Add(y, z)
	case api.Add:
		r.Add(x, y)
	case api.Sub:
		r.Sub(x, y)
	case api.Mul:
		r.Mul(x, y)
	case api.Divu:
		r.SetUint64(math.MaxUint64)
		if b != 0 {
			r.Quo(x, y)
		}
	case api.Remu:
		r.Set(x)
		if b != 0 {
			r.Rem(x, y)
		}
	case api.And:
		r.And(x, y)
	case api.Or:
		r.Or(x, y)
	case api.Xor:
		r.Xor(x, y)
	case api.Shl:
		r.Lsh(x, places)
	case api.Shr:
		r.Rsh(x, places)
	}
	return wrapped(r)
}

func TestStepComputes(t *testing.T) {
	for op := api.Li; op <= api.Shr; op++ {
		for _, a := range edges {
			for n, b := range edges {
				i := api.Instr{Op: op, A: 1, B: 2, Imm: imms[n%len(imms)]}
				checkOne(t, someRegs(i, a, b), i, func(p *api.Proc) {
					p.Regs[1] = compute(op, a, b, i.Imm)
					p.PC += 4
				})
			}
		}
	}
}

func TestStepComputesExamples(t *testing.T) {
	for _, x := range []struct {
		op   api.Op
		a, b uint64
		imm  int16
		want uint64
	}{
		{api.Li, 5, 6, -1, math.MaxUint64}, {api.Li, 5, 6, math.MinInt16, 0xffffffffffff8000}, {api.Li, 5, 6, math.MaxInt16, 0x7fff},
		{api.Move, 5, 6, 9, 6},
		{api.Addi, 5, 6, 9, 15}, {api.Addi, 5, math.MaxUint64, 1, 0}, {api.Addi, 5, 0, -1, math.MaxUint64},
		{api.Add, math.MaxUint64, 2, 9, 1}, {api.Sub, 0, 1, 9, math.MaxUint64},
		{api.Mul, 1 << 63, 2, 9, 0}, {api.Mul, math.MaxUint64, math.MaxUint64, 9, 1}, {api.Mul, 0xffffffff, 0x100000001, 9, math.MaxUint64},
		{api.Divu, math.MaxUint64, 1 << 63, 9, 1}, {api.Divu, 0, 0, 9, math.MaxUint64}, {api.Divu, 7, 0, 9, math.MaxUint64}, {api.Divu, 7, 2, 9, 3},
		{api.Remu, math.MaxUint64, 1 << 63, 9, math.MaxInt64}, {api.Remu, 7, 0, 9, 7}, {api.Remu, 0, 0, 9, 0}, {api.Remu, 7, 2, 9, 1},
		{api.And, 12, 10, 9, 8}, {api.Or, 12, 10, 9, 14}, {api.Xor, 12, 10, 9, 6},
		{api.Shl, 3, 63, 9, 1 << 63}, {api.Shl, 3, 64, 9, 3}, {api.Shl, 3, math.MaxUint64, 9, 1 << 63}, {api.Shl, 3, 1 << 32, 9, 3},
		{api.Shr, math.MaxUint64, 63, 9, 1}, {api.Shr, 3, 64, 9, 3}, {api.Shr, 1 << 63, math.MaxUint64, 9, 1}, {api.Shr, math.MaxUint64, 4, 9, math.MaxUint64 >> 4},
	} {
		i := api.Instr{Op: x.op, A: 3, B: 4, Imm: x.imm}
		checkOne(t, someRegs(i, x.a, x.b), i, func(p *api.Proc) {
			p.Regs[3] = x.want
			p.PC += 4
		})
	}
}

// TestStepEveryRegister has each register be A, and B, and both: 0 and 15 are as the others are.
func TestStepEveryRegister(t *testing.T) {
	const n = 0x8000000000000005
	for a := range 16 {
		for b := range 16 {
			for op := api.Li; op <= api.Shr; op++ {
				i := api.Instr{Op: op, A: a, B: b, Imm: -3}
				regs := someRegs(i, n, 6)
				checkOne(t, regs, i, func(p *api.Proc) {
					p.Regs[a] = compute(op, regs[a], regs[b], -3)
					p.PC += 4
				})
			}
		}
	}
}

func isTaken(op api.Op, a, b uint64) bool {
	x, y := new(big.Int).SetUint64(a), new(big.Int).SetUint64(b)
	switch op {
	case api.Beq:
		return x.Cmp(y) == 0
	case api.Bne:
		return x.Cmp(y) != 0
	case api.Bltu:
		return x.Cmp(y) < 0
	}
	return signed(a).Cmp(signed(b)) < 0
}

func signed(n uint64) *big.Int {
	x := new(big.Int).SetUint64(n)
	if n >= 1<<63 {
		x.Sub(x, new(big.Int).Lsh(big.NewInt(1), 64))
	}
	return x
}

// onward is an address with Imm added, of 64 bits.
func onward(addr uint64, imm int16) uint64 {
	return wrapped(new(big.Int).Add(new(big.Int).SetUint64(addr), big.NewInt(int64(imm))))
}

func TestStepBranches(t *testing.T) {
	for _, op := range []api.Op{api.Beq, api.Bne, api.Blt, api.Bltu} {
		for _, a := range edges {
			for n, b := range edges {
				i := api.Instr{Op: op, A: 1, B: 2, Imm: imms[n%len(imms)]}
				checkOne(t, someRegs(i, a, b), i, func(p *api.Proc) {
					if isTaken(op, a, b) {
						p.PC = onward(p.PC, i.Imm)
					} else {
						p.PC += 4
					}
				})
			}
		}
		for _, imm := range imms {
			i := api.Instr{Op: op, A: 7, B: 7, Imm: imm} // of a register with itself
			checkOne(t, someRegs(i, 5, 5), i, func(p *api.Proc) {
				if op == api.Beq {
					p.PC = onward(p.PC, imm)
				} else {
					p.PC += 4
				}
			})
		}
	}
}

func TestStepBranchesExamples(t *testing.T) {
	const minus = math.MaxUint64
	for _, x := range []struct {
		op    api.Op
		a, b  uint64
		taken bool
	}{
		{api.Beq, 3, 3, true}, {api.Beq, 3, 3 + 1<<32, false}, {api.Bne, 3, 3, false}, {api.Bne, 3, 3 + 1<<63, true},
		{api.Blt, minus, 0, true}, {api.Blt, 0, minus, false}, {api.Blt, 1 << 63, math.MaxInt64, true}, {api.Blt, math.MaxInt64, 1 << 63, false}, {api.Blt, 2, 2, false}, {api.Blt, 1, 2, true},
		{api.Bltu, minus, 0, false}, {api.Bltu, 0, minus, true}, {api.Bltu, 1 << 63, math.MaxInt64, false}, {api.Bltu, 2, 2, false}, {api.Bltu, 1, 2, true},
	} {
		i := api.Instr{Op: x.op, A: 3, B: 4, Imm: -0x20}
		checkOne(t, someRegs(i, x.a, x.b), i, func(p *api.Proc) {
			if x.taken {
				p.PC -= 0x20
			} else {
				p.PC += 4
			}
		})
	}
}

func TestStepJumps(t *testing.T) {
	for a := range 16 {
		for _, imm := range imms {
			jal := api.Instr{Op: api.Jal, A: a, B: 15 - a, Imm: imm}
			checkOne(t, someRegs(jal, 5, 6), jal, func(p *api.Proc) {
				p.Regs[a] = p.PC + 4
				p.PC = onward(p.PC, imm)
			})
			for _, to := range edges {
				jr := api.Instr{Op: api.Jr, A: a, B: 15 - a, Imm: imm}
				checkOne(t, someRegs(jr, to, 6), jr, func(p *api.Proc) { p.PC = to })
			}
		}
	}
}

// pages of all kinds, the pages beside them too; page 6 is not there, and all are full.
func sundry(t *testing.T) []seg {
	full := instrs(t, slices.Repeat([]api.Instr{{Op: api.Li, A: 5, Imm: 0x7766}}, 64)...)
	var segs []seg
	for n, perm := range []uint64{6, 6, 4, 2, 1, 5} {
		segs = append(segs, seg{perm: perm, addr: uint64(0x700 + 0x100*n), data: full})
	}
	return segs
}

// places are addresses about the ends of pages, of the stack and of the address space, and others that have the same lowest bits.
func places() []uint64 {
	var list []uint64
	for page := uint64(0); page <= 14; page++ {
		for k := range uint64(18) {
			list = append(list, page*0x100+k-9)
		}
	}
	for k := range uint64(18) {
		list = append(list, 0xfe00+k-9, 0xff00+k-9, 0x10000+k-9, 1<<32+k-9, 1<<63+k-9)
	}
	for _, far := range []uint64{1 << 16, 1 << 20, 1 << 31, 1 << 32, 1 << 63, 0xffffffffffff0000} {
		list = append(list, 0x700+far, 0x7f8+far, 0x900+far, 0xb00+far, 0xff80+far)
	}
	return list
}

// permAt tells what may be done at an address.
func permAt(p api.Proc, addr uint64) api.Perm {
	for _, g := range p.Pages {
		if uint64(g.Number) == addr/256 {
			return g.Perm
		}
	}
	return 0
}

func byteAt(p *api.Proc, addr uint64) *byte {
	for i := range p.Pages {
		if uint64(p.Pages[i].Number) == addr/256 {
			return &p.Pages[i].Bytes[addr%256]
		}
	}
	return nil
}

func allows(p api.Proc, addr uint64, count uint64, perm api.Perm) bool {
	for k := range count {
		if permAt(p, addr+k)&perm == 0 {
			return false
		}
	}
	return true
}

// access does Ld, St, Ldb or Stb to what a process was; false, if it is a trap.
func access(p *api.Proc, i api.Instr) bool {
	count, perm := uint64(8), api.Perm(4)
	if i.Op == api.Ldb || i.Op == api.Stb {
		count = 1
	}
	if i.Op == api.St || i.Op == api.Stb {
		perm = 2
	}
	addr := onward(p.Regs[i.B], i.Imm)
	if !allows(*p, addr, count, perm) {
		return false
	}
	n := uint64(0)
	for k := range count {
		if perm == 2 {
			*byteAt(p, addr+k) = byte(p.Regs[i.A] >> (8 * k))
		} else {
			n |= uint64(*byteAt(p, addr+k)) << (8 * k)
		}
	}
	if perm == 4 {
		p.Regs[i.A] = n
	}
	p.PC += 4
	return true
}

func TestStepMemory(t *testing.T) {
	segs := sundry(t)
	for _, op := range []api.Op{api.Ld, api.St, api.Ldb, api.Stb} {
		for n, addr := range places() {
			for k := range 3 {
				imm := imms[(n+k)%len(imms)]
				i := api.Instr{Op: op, A: 3, B: 4, Imm: imm}
				regs := someRegs(i, 0x8182838485868788, onward(addr-uint64(int64(imm)), 0))
				k := bootWith(t, regs, instrs(t, i), segs...)
				was := k.Procs()[0]
				want := k.Procs()[0]
				right := access(&want, i)
				step(t, k)
				if !right {
					checkTrap(t, k, was, 131)
				} else if got := k.Procs()[0]; !sameProc(got, want) {
					t.Fatalf("P18: %+v at %#x: %s, want %s", i, addr, brief(got), brief(want))
				}
			}
		}
	}
}

func TestStepMemoryExamples(t *testing.T) {
	segs := sundry(t) // each instruction in them is 01 50 66 77; the stack ends with init and 0
	for _, x := range []struct {
		op     api.Op
		addr   uint64
		want   uint64
		status int
	}{
		{api.Ld, 0x700, 0x7766500177665001, 0}, {api.Ld, 0x701, 0x0177665001776650, 0}, {api.Ldb, 0x703, 0x77, 0},
		{api.Ld, 0x7fc, 0x7766500177665001, 0}, {api.Ld, 0x8f9, 0x0177665001776650, 0}, {api.Ld, 0x9f8, 0x7766500177665001, 0}, {api.Ld, 0x9f9, 0, 131},
		{api.Ld, 0x6ff, 0, 131}, {api.Ldb, 0x6ff, 0, 131}, {api.Ldb, 0x9ff, 0x77, 0}, {api.Ldb, 0xa00, 0, 131}, {api.Ldb, 0xb00, 0, 131}, {api.Ldb, 0xc00, 1, 0},
		{api.St, 0x8f8, 3, 0}, {api.St, 0x8f9, 3, 131}, {api.St, 0x9ff, 3, 131}, {api.St, 0xa00, 3, 0}, {api.St, 0xaf8, 3, 0}, {api.St, 0xaf9, 3, 131}, {api.Stb, 0xaff, 3, 0}, {api.Stb, 0xb00, 3, 131}, {api.Stb, 0xc00, 3, 131},
		{api.Ld, 0xfff8, 0x0074696e69000000, 0}, {api.Ld, 0xfdff, 0, 131}, {api.Ld, 0xfe00, 0, 0}, {api.Ldb, 0xffff, 0, 0}, {api.Ldb, 0xfffb, 'i', 0},
		{api.Ld, 0xfff9, 0, 131}, {api.Ld, 0x10000, 0, 131}, {api.Ldb, 0x10000, 0, 131}, {api.St, 0xfff8, 3, 0}, {api.St, 0xfff9, 3, 131}, {api.Stb, 0xffff, 3, 0}, {api.Stb, 0x10000, 3, 131},
		{api.Ld, math.MaxUint64, 0, 131}, {api.Ld, math.MaxUint64 - 7, 0, 131}, {api.St, math.MaxUint64, 3, 131}, {api.Ldb, math.MaxUint64, 0, 131},
	} {
		i := api.Instr{Op: x.op, A: 3, B: 4}
		k := bootWith(t, someRegs(i, 3, x.addr), instrs(t, i), segs...)
		step(t, k)
		p := k.Procs()[0]
		if p.Status != x.status || (p.State == api.Zombie) != (x.status != 0) || x.status == 0 && p.Regs[3] != x.want {
			t.Errorf("P18: %+v at %#x: status %d, register 3 has %#x, want %d and %#x", i, x.addr, p.Status, p.Regs[3], x.status, x.want)
		}
	}
}

// TestStepOwnAddress has A and B be the same register.
func TestStepOwnAddress(t *testing.T) {
	for n := range 16 {
		for _, op := range []api.Op{api.Ld, api.St, api.Ldb, api.Stb} {
			i := api.Instr{Op: op, A: n, B: n, Imm: 5}
			k := bootWith(t, someRegs(i, 0x7f7, 0x7f7), instrs(t, i), sundry(t)...)
			want := k.Procs()[0]
			access(&want, i)
			step(t, k)
			if got := k.Procs()[0]; !sameProc(got, want) {
				t.Errorf("P18: %+v: %s, want %s", i, brief(got), brief(want))
			}
		}
	}
}

func TestStepPC(t *testing.T) {
	segs := sundry(t)
	for _, to := range places() {
		i := api.Instr{Op: api.Jr, A: 3}
		k := bootWith(t, someRegs(i, to, 0), instrs(t, i), segs...)
		step(t, k)
		was := k.Procs()[0]
		if was.PC != to || was.State != api.Ready {
			t.Fatalf("P18: Jr to %#x: %s", to, brief(was))
		}
		step(t, k)
		if to%4 != 0 || !allows(was, to, 1, 1) {
			checkTrap(t, k, was, 129)
			continue
		}
		if to < 0x700 { // the code that sets the registers
			continue
		}
		was.Regs[5] = 0x7766
		was.PC += 4
		if got := k.Procs()[0]; !sameProc(got, was) {
			t.Errorf("P18: an instruction at %#x: %s, want %s", to, brief(got), brief(was))
		}
	}
}

// TestStepOverPages goes on from page to page, up to one that may not be executed.
func TestStepOverPages(t *testing.T) {
	li := instrs(t, api.Instr{Op: api.Li, A: 1, Imm: 9})
	for _, x := range []struct {
		name  string
		entry uint64
		steps int
		segs  []seg
	}{
		{"a page that is not there", 0x1f8, 2, []seg{{perm: 5, addr: 0x1f8, data: slices.Repeat(li, 2)}}},
		{"a page to read", 0x1fc, 1, []seg{{perm: 5, addr: 0x1fc, data: li}, {perm: 6, addr: 0x200, data: li}}},
		{"a page to execute, and none", 0x1fc, 65, []seg{{perm: 5, addr: 0x1fc, data: li}, {perm: 1, addr: 0x200, data: slices.Repeat(li, 64)}}},
		{"the stack", 0xfdfc, 1, []seg{{perm: 1, addr: 0xfdfc, data: li}}},
	} {
		k := boot(t, program(x.entry, x.segs...))
		for range x.steps {
			step(t, k)
		}
		was := k.Procs()[0]
		if was.State != api.Ready || was.PC != x.entry+4*uint64(x.steps) || was.Regs[1] != 9 {
			t.Errorf("P18: %s: %s", x.name, brief(was))
		}
		step(t, k)
		checkTrap(t, k, was, 129)
	}
}

// TestStepWrapsPC goes on to addresses below 0.
func TestStepWrapsPC(t *testing.T) {
	for _, i := range []api.Instr{{Op: api.Jal, A: 1, Imm: -4}, {Op: api.Beq, Imm: -4}, {Op: api.Bne, A: 15, B: 1, Imm: -0x8000}, {Op: api.Bltu, A: 1, B: 15, Imm: -1}} {
		k := boot(t, program(0, seg{perm: 5, addr: 0, data: instrs(t, i)}))
		step(t, k)
		was := k.Procs()[0]
		if was.PC != onward(0, i.Imm) || was.PC < 1<<63 || was.State != api.Ready {
			t.Errorf("P18: %+v at 0: %s", i, brief(was))
		}
		step(t, k)
		checkTrap(t, k, was, 129)
	}
}

func TestStepNoInstruction(t *testing.T) {
	for _, op := range wrongOps() {
		k := bootWith(t, someRegs(api.Instr{}, 0, 0), []byte{byte(op), 0x12, 0x34, 0x56})
		was := k.Procs()[0]
		step(t, k)
		checkTrap(t, k, was, 130)
	}
	k := boot(t, program(0x1fc, seg{perm: 5, addr: 0x1f8, data: []byte{1}})) // where a segment has no bytes stands 0
	was := k.Procs()[0]
	step(t, k)
	checkTrap(t, k, was, 130)
}

// TestStepFirstTrap has PC be wrong where there is no instruction too.
func TestStepFirstTrap(t *testing.T) {
	for _, to := range []uint64{0x701, 0x702, 0x703, 0x780, 0x801} {
		i := api.Instr{Op: api.Jr, A: 3}
		k := bootWith(t, someRegs(i, to, 0), instrs(t, i), seg{perm: 4, addr: 0x700, size: 0x100}, seg{perm: 1, addr: 0x800, size: 0x100})
		step(t, k)
		was := k.Procs()[0]
		step(t, k)
		checkTrap(t, k, was, 129)
	}
}

func TestStepOfNone(t *testing.T) {
	k := boot(t, loop(t), file("/a", "text"))
	zombie := boot(t, program(0, seg{perm: 5, addr: 0, data: []byte{0}}))
	step(t, zombie)
	for _, k := range []*tinyos.Kernel{k, zombie} {
		want := tellAll(k)
		for _, pid := range []int{0, -1, 2, 3, 15, 16, 17, 257, 1<<32 + 1, math.MinInt, math.MaxInt} {
			if err := k.Step(pid); api.Tell(err) != api.ErrPid || !tellAll(k).same(want) {
				t.Errorf("P18: Step(%d): %v, want ErrPid and no change", pid, err)
			}
		}
	}
	if err := zombie.Step(1); api.Tell(err) != api.ErrState {
		t.Errorf("P18: Step of a zombie: %v, want ErrState", err)
	}
}

// TestStepKernelsApart steps one of two kernels that were booted alike.
func TestStepKernelsApart(t *testing.T) {
	init := program(0x100, seg{perm: 5, addr: 0x100, data: instrs(t, api.Instr{Op: api.St, A: 15, B: 15})})
	k, other := boot(t, init), boot(t, init)
	want := tellAll(other)
	step(t, k)
	if tellAll(k).same(want) || !tellAll(other).same(want) {
		t.Error("P18: a step of one kernel is not its own")
	}
	if !sameFiles(k.Files(), other.Files()) {
		t.Error("P18: a step changed a file")
	}
}

// fetched is the instruction at PC; or the status of a trap, or 0.
func fetched(p *api.Proc) (api.Instr, int) {
	if p.PC%4 != 0 || !allows(*p, p.PC, 4, 1) {
		return api.Instr{}, 129
	}
	var b [4]byte
	for k := range b {
		b[k] = *byteAt(p, p.PC+uint64(k))
	}
	i, err := tinyos.Decode(b)
	if err != nil {
		return api.Instr{}, 130
	}
	return i, 0
}

// follow does to p what the document says that the instruction at PC does, but for an Ecall; the status of a trap, or 0.
func follow(p *api.Proc) int {
	i, status := fetched(p)
	if status != 0 {
		return status
	}
	switch a, b := p.Regs[i.A], p.Regs[i.B]; {
	case i.Op <= api.Shr:
		p.Regs[i.A] = compute(i.Op, a, b, i.Imm)
		p.PC += 4
	case i.Op <= api.Stb:
		if !access(p, i) {
			return 131
		}
	case i.Op <= api.Bltu && !isTaken(i.Op, a, b):
		p.PC += 4
	case i.Op <= api.Bltu:
		p.PC = onward(p.PC, i.Imm)
	case i.Op == api.Jal:
		p.Regs[i.A] = p.PC + 4
		p.PC = onward(p.PC, i.Imm)
	case i.Op == api.Jr:
		p.PC = a
	}
	return 0
}

// anyCode makes instructions by chance that go on within the code, mostly, and about page 7; now and then a word of no sense.
func anyCode(t *testing.T, r *rand.Rand, count int) []byte {
	var code []byte
	for n := range count {
		i := api.Instr{Op: api.Li + api.Op(r.IntN(23)), A: r.IntN(16), B: r.IntN(16), Imm: int16(r.Uint32())}
		switch {
		case i.Op >= api.Ld && i.Op <= api.Stb && r.IntN(8) > 0:
			i.Imm = int16(r.IntN(8))
			code = append(code, instrs(t, api.Instr{Op: api.Li, A: i.B, Imm: int16(0x700 + r.IntN(0x200))})...)
		case i.Op >= api.Beq && i.Op <= api.Jal && r.IntN(8) > 0:
			i.Imm = int16(4 * (1 + r.IntN(3)))
		case i.Op == api.Jr && r.IntN(8) > 0:
			i.Op = api.Jal
			i.Imm = int16(-4 * r.IntN(n/2+1))
		}
		code = append(code, instrs(t, i)...)
		if r.IntN(200) == 0 {
			code[len(code)-4] = byte(r.Uint32())
		}
	}
	return code
}

func TestStepAnyCode(t *testing.T) {
	r := rand.New(rand.NewPCG(5, 6))
	statuses := map[int]int{}
	for range 400 {
		var regs [16]uint64
		for n := range regs {
			regs[n] = edges[r.IntN(len(edges))]
		}
		code := anyCode(t, r, 80)
		for k := 0; k < len(code); k += 4 { // an Ecall is another promise's
			if code[k] == byte(api.Ecall) {
				code[k] = 0
			}
		}
		k := bootWith(t, regs, code, sundry(t)...)
		for range 100 {
			was, want := k.Procs()[0], k.Procs()[0]
			status := follow(&want)
			step(t, k)
			statuses[status]++
			if status != 0 {
				checkTrap(t, k, was, status)
				break
			}
			if got := k.Procs()[0]; !sameProc(got, want) {
				t.Fatalf("P18: at %#x: %s, want %s", was.PC, brief(got), brief(want))
			}
		}
	}
	if statuses[0] < 4000 || statuses[129] == 0 || statuses[130] == 0 || statuses[131] == 0 {
		t.Errorf("too few steps of each kind: %v", statuses)
	}
}

// TestStepAnyBytes does bytes by chance, all instructions among them: whatever becomes of it, a step of a process that is ready does not fail.
func TestStepAnyBytes(t *testing.T) {
	r := rand.New(rand.NewPCG(7, 8))
	for range 500 {
		code := make([]byte, 1024)
		for k := range code {
			code[k] = byte(r.Uint32())
			if k%4 == 0 {
				code[k] %= 28
			}
		}
		k := boot(t, program(0x200, seg{perm: 5, addr: 0x200, data: code}, seg{perm: 6, addr: 0x700, size: 0x300}))
		for range 100 {
			want := api.OK
			if k.Procs()[0].State != api.Ready {
				want = api.ErrState
			}
			if err := k.Step(1); api.Tell(err) != want {
				t.Fatalf("P18: Step: %v, want error %d", err, want)
			}
		}
	}
}
