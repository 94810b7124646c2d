package tinyos_test

import (
	"math/rand/v2"
	"testing"

	"tinyos/api"
	"tinyos/tinyos"
)

// textAt is what is read as a text at an address; false, if it cannot be read.
func textAt(p *api.Proc, addr uint64) (string, bool) {
	text := ""
	for len(text) < 64 {
		at := addr + uint64(len(text))
		if !allows(*p, at, 1, 4) {
			return "", false
		}
		b := *byteAt(p, at)
		if b == 0 {
			break
		}
		text += string([]byte{b})
	}
	return text, true
}

// listAt is what is read as a list of texts; false, if it cannot be read.
func listAt(p *api.Proc, addr uint64) ([]string, bool) {
	list := []string{}
	for len(list) < 9 {
		at := addr + 8*uint64(len(list))
		if !allows(*p, at, 8, 4) {
			return nil, false
		}
		to := uint64(0)
		for k := range uint64(8) {
			to += uint64(*byteAt(p, at+k)) << (8 * k)
		}
		if to == 0 {
			break
		}
		text, ok := textAt(p, to)
		if !ok {
			return nil, false
		}
		list = append(list, text)
	}
	return list, true
}

// dataAt is so many bytes at an address; false, if they cannot be read, or are too many.
func dataAt(p *api.Proc, addr, size uint64) ([]byte, bool) {
	if size > 4096 || !allows(*p, addr, size, 4) {
		return nil, false
	}
	d := []byte{}
	for k := range size {
		d = append(d, *byteAt(p, addr+k))
	}
	return d, true
}

// asked is the call that an Ecall makes, or an error that is ahead of the call's own.
func asked(p *api.Proc) (api.Call, api.Errno) {
	if p.Regs[1] < 1 || p.Regs[1] > 21 {
		return api.Call{}, api.ErrCall
	}
	c := api.Call{Kind: api.Kind(p.Regs[1]), A: int(p.Regs[2]), B: int(p.Regs[3])}
	s, isText := textAt(p, p.Regs[4])
	l, isList := listAt(p, p.Regs[5])
	d, isData := dataAt(p, p.Regs[5], p.Regs[6])
	right := true
	switch c.Kind {
	case api.Exec:
		c.S, c.L, right = s, l, isText && isList
	case api.Open, api.Unlink, api.Mkdir, api.Checkpoint, api.Restore:
		c.S, right = s, isText
	case api.Write, api.Poke:
		c.D, right = d, isData
	case api.Read, api.Peek:
		right = c.B <= 0 || allows(*p, p.Regs[5], uint64(c.B), 2)
	}
	if !right {
		return c, api.ErrMemory
	}
	return c, api.OK
}

// ecall makes the call that an Ecall asked the kernel for.
func (m *model) ecall(t *testing.T, k *tinyos.Kernel, p *being) {
	t.Helper()
	c, err := asked(&p.Proc)
	a := fails(err)
	switch {
	case err != api.OK:
	case c.Kind == api.Checkpoint:
		a = m.checkpointed(t, k, p.PID, c, registered(proc(t, k, p.PID)))
	default:
		a = m.do(p.PID, c)
	}
	m.ecalls.add(c.Kind, a.err)
	m.goOn(p, c.Kind, a)
}

// registered is the answer that a process has in its registers, of a call that answers N alone.
func registered(p api.Proc) answer {
	if n := int(p.Regs[1]); n >= 0 {
		return is(n)
	}
	return fails(api.Errno(-int(p.Regs[1])))
}

// goOn does to a process that made an Ecall what P19 says.
func (m *model) goOn(p *being, kind api.Kind, a answer) {
	switch {
	case a.err == api.ErrAgain, p.State == api.Zombie:
	case a.err != api.OK:
		p.Regs[1] = uint64(-int64(a.err))
		p.PC += 4
	case kind == api.Exec:
	default:
		if kind == api.Fork {
			child := m.at(a.n)
			child.Regs[1] = 0
			child.PC += 4
		}
		for i := range len(a.d) {
			*byteAt(&p.Proc, p.Regs[5]+uint64(i)) = a.d[i]
		}
		p.Regs[1], p.Regs[2] = uint64(a.n), uint64(a.m)
		p.PC += 4
	}
}

const (
	callerRegs = 0x400 // where a caller takes its registers from
	callerSize = 0x200 // of its memory from there on
)

// caller is an executable that takes the registers 1 to 6 from its memory and does an Ecall, again and again.
func caller(t *testing.T) []byte {
	t.Helper()
	code := []api.Instr{{Op: api.Li, A: 7, Imm: callerRegs}}
	for n := 1; n <= 6; n++ {
		code = append(code, api.Instr{Op: api.Ld, A: n, B: 7, Imm: int16(8 * (n - 1))})
	}
	code = append(code, api.Instr{Op: api.Ecall}, api.Instr{Op: api.Jal, A: 8, Imm: -32})
	return program(0x100, seg{perm: 5, addr: 0x100, data: instrs(t, code...)}, seg{perm: 6, addr: callerRegs, size: callerSize})
}

// isCaller tells whether a process is ready and does what a caller does.
func (p *being) isCaller() bool {
	return p.State == api.Ready && allows(p.Proc, callerRegs, callerSize, 6) && *byteAt(&p.Proc, 0x11c) == byte(api.Ecall)
}

// laidOut is the memory of a caller that makes this call, with registers that are wrong now and then.
func laidOut(r *rand.Rand, c api.Call) string {
	const text, data, texts = 0x40, 0x90, 0xe0
	b := make([]byte, callerSize)
	copy(b[text:data], c.S)
	copy(b[data:], c.D)
	if c.Kind == api.Exec {
		for i, s := range c.L {
			put(b, data+8*i, 8, uint64(callerRegs+texts+32*i))
			copy(b[texts+32*i:], s)
		}
		put(b, data+8*len(c.L), 8, uint64(anyOf(r, 0, 0, 0, 0, callerRegs+texts, 0x5ff)))
	}
	regs := []uint64{uint64(c.Kind), uint64(c.A), uint64(c.B), callerRegs + text, callerRegs + data, uint64(len(c.D))}
	if r.IntN(10) == 0 {
		wrong := []uint64{0, 0x100, 0x3ff, 0x5c0, 0x5c1, 0x5ff, 0x600, 0x700, 0xfdff, 0xff00, 0xfff0, 0xffff, 0x10000, 0x10400, 1<<32 + 0x440, 1<<64 - 1, 1<<64 - 8}
		regs[3+r.IntN(2)] = anyOf(r, wrong...)
		regs[5] = anyOf(r, regs[5], regs[5], 0, 1, 256, 4096, 4097, 1<<63, 1<<64-1)
	}
	for i, n := range regs {
		put(b, 8*i, 8, n)
	}
	return string(b)
}

// makeByEcall has a process make a call by an Ecall; if none is a caller, this one becomes one.
func (m *model) makeByEcall(t *testing.T, r *rand.Rand, k *tinyos.Kernel, pid int, c api.Call) {
	t.Helper()
	list := []int{}
	for _, p := range m.procs {
		if p.isCaller() {
			list = append(list, p.PID)
		}
	}
	if len(list) == 0 {
		m.make(t, k, pid, exec("/caller"))
		return
	}
	if p := m.at(pid); p == nil || !p.isCaller() {
		pid = anyOf(r, list...)
	}
	m.make(t, k, pid, poke(callerRegs, laidOut(r, c)))
	for range 9 {
		was := m.at(pid).PC
		m.stepBoth(t, k, pid)
		switch p := m.at(pid); {
		case !p.isCaller():
			return
		case p.PC == was: // its call is not answered yet
			if r.IntN(2) == 0 {
				m.make(t, k, pid, exec("/caller"))
			}
			return
		}
	}
}

// checkEcalls asks for Ecalls of all kinds that answered, and for the errors that are an Ecall's own.
func checkEcalls(t *testing.T, ecalls counts) {
	t.Helper()
	want := map[api.Kind][]api.Errno{0: {api.ErrCall}}
	for kind := api.Fork; kind <= api.Restore; kind++ {
		want[kind] = []api.Errno{api.OK}
	}
	for _, kind := range []api.Kind{api.Exec, api.Open, api.Read, api.Write, api.Unlink, api.Mkdir, api.Peek, api.Poke, api.Checkpoint, api.Restore} {
		want[kind] = append(want[kind], api.ErrMemory)
	}
	for _, kind := range []api.Kind{api.Wait, api.Read, api.Write} {
		want[kind] = append(want[kind], api.ErrAgain)
	}
	ecalls.check(t, "an Ecall", want)
}
