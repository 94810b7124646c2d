package cpu

import (
	"tinyos/api"
	"tinyos/mem"
)

// work does an instruction and tells where PC goes on. It changes a register only where no trap can follow.
type work func(c *CPU, i api.Instr) uint64

// works lists what does each instruction, by its number.
func works() [api.Ops]work {
	return [api.Ops]work{
		api.Li:    (*CPU).li,
		api.Move:  (*CPU).move,
		api.Addi:  (*CPU).addi,
		api.Add:   (*CPU).add,
		api.Sub:   (*CPU).sub,
		api.Mul:   (*CPU).mul,
		api.Divu:  (*CPU).divu,
		api.Remu:  (*CPU).remu,
		api.And:   (*CPU).and,
		api.Or:    (*CPU).or,
		api.Xor:   (*CPU).xor,
		api.Shl:   (*CPU).shl,
		api.Shr:   (*CPU).shr,
		api.Ld:    (*CPU).ld,
		api.St:    (*CPU).st,
		api.Ldb:   (*CPU).ldb,
		api.Stb:   (*CPU).stb,
		api.Beq:   (*CPU).beq,
		api.Bne:   (*CPU).bne,
		api.Blt:   (*CPU).blt,
		api.Bltu:  (*CPU).bltu,
		api.Jal:   (*CPU).jal,
		api.Jr:    (*CPU).jr,
		api.Ecall: (*CPU).ecall,
	}
}

// imm is an instruction's Imm as a number of 64 bits that has its sign.
func imm(i api.Instr) uint64 { return uint64(int64(i.Imm)) }

func (c *CPU) a(i api.Instr) uint64 { return c.Regs[i.A] }
func (c *CPU) b(i api.Instr) uint64 { return c.Regs[i.B] }

func (c *CPU) next() uint64 { return c.PC + instrSize }

// becomes sets A, and goes on.
func (c *CPU) becomes(i api.Instr, n uint64) uint64 {
	c.Regs[i.A] = n
	return c.next()
}

func (c *CPU) li(i api.Instr) uint64   { return c.becomes(i, imm(i)) }
func (c *CPU) move(i api.Instr) uint64 { return c.becomes(i, c.b(i)) }
func (c *CPU) addi(i api.Instr) uint64 { return c.becomes(i, c.b(i)+imm(i)) }
func (c *CPU) add(i api.Instr) uint64  { return c.becomes(i, c.a(i)+c.b(i)) }
func (c *CPU) sub(i api.Instr) uint64  { return c.becomes(i, c.a(i)-c.b(i)) }
func (c *CPU) mul(i api.Instr) uint64  { return c.becomes(i, c.a(i)*c.b(i)) }

func (c *CPU) divu(i api.Instr) uint64 {
	if c.b(i) == 0 {
		return c.becomes(i, ^uint64(0))
	}
	return c.becomes(i, c.a(i)/c.b(i))
}

func (c *CPU) remu(i api.Instr) uint64 {
	if c.b(i) == 0 {
		return c.next()
	}
	return c.becomes(i, c.a(i)%c.b(i))
}

func (c *CPU) and(i api.Instr) uint64 { return c.becomes(i, c.a(i)&c.b(i)) }
func (c *CPU) or(i api.Instr) uint64  { return c.becomes(i, c.a(i)|c.b(i)) }
func (c *CPU) xor(i api.Instr) uint64 { return c.becomes(i, c.a(i)^c.b(i)) }

// places is by how many places B shifts: its lowest 6 bits.
func (c *CPU) places(i api.Instr) uint64 { return c.b(i) % 64 }

func (c *CPU) shl(i api.Instr) uint64 { return c.becomes(i, c.a(i)<<c.places(i)) }
func (c *CPU) shr(i api.Instr) uint64 { return c.becomes(i, c.a(i)>>c.places(i)) }

// addr is the address that an instruction reads or writes at.
func (c *CPU) addr(i api.Instr) uint64 { return c.b(i) + imm(i) }

func (c *CPU) ld(i api.Instr) uint64  { return c.becomes(i, c.load(c.addr(i), mem.WordSize)) }
func (c *CPU) ldb(i api.Instr) uint64 { return c.becomes(i, c.load(c.addr(i), 1)) }

func (c *CPU) st(i api.Instr) uint64 {
	c.store(c.addr(i), mem.WordSize, c.a(i))
	return c.next()
}

func (c *CPU) stb(i api.Instr) uint64 {
	c.store(c.addr(i), 1, c.a(i))
	return c.next()
}

// branch goes on to Imm if this holds.
func (c *CPU) branch(i api.Instr, holds bool) uint64 {
	if holds {
		return c.PC + imm(i)
	}
	return c.next()
}

func (c *CPU) beq(i api.Instr) uint64  { return c.branch(i, c.a(i) == c.b(i)) }
func (c *CPU) bne(i api.Instr) uint64  { return c.branch(i, c.a(i) != c.b(i)) }
func (c *CPU) blt(i api.Instr) uint64  { return c.branch(i, int64(c.a(i)) < int64(c.b(i))) }
func (c *CPU) bltu(i api.Instr) uint64 { return c.branch(i, c.a(i) < c.b(i)) }

func (c *CPU) jal(i api.Instr) uint64 {
	c.Regs[i.A] = c.next()
	return c.PC + imm(i)
}

func (c *CPU) jr(i api.Instr) uint64 { return c.a(i) }

// ecall stays: where PC goes on hangs on what the call answers.
func (c *CPU) ecall(api.Instr) uint64 { return c.PC }
