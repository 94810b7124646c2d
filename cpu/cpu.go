// Package cpu: instructions at work on registers and memory.
package cpu

import (
	"tinyos/api"
	"tinyos/code"
	"tinyos/mem"
)

const instrSize = 4

// CPU is what a process works with. A copy of it shares nothing with it.
type CPU struct {
	PC    uint64
	Regs  [api.MaxRegs]uint64
	Space mem.Space
}

// trap is the status of a process that a trap ends.
type trap int

const (
	badPC trap = iota + 129
	badInstr
	badAddress
)

// Step does the instruction at PC. The status is 0, or what a trap ends the process with: then PC and the registers are as they were. They are so too where it asks for a call, which is not the CPU's to make.
func (c *CPU) Step() (asks bool, status int) {
	defer func() {
		switch r := recover().(type) {
		case nil:
		case trap:
			status = int(r)
		default: // a fault of the program is no trap
			panic(r)
		}
	}()
	i := c.fetch()
	c.PC = works()[i.Op](c, i)
	return i.Op == api.Ecall, 0
}

// GoOn goes on behind the instruction at PC.
func (c *CPU) GoOn() { c.PC = c.next() }

func (c *CPU) fetch() api.Instr {
	var b [instrSize]byte
	if c.PC%instrSize != 0 || !c.Space.Get(b[:], c.PC, mem.Execute) {
		panic(badPC)
	}
	i, err := code.Decode(b)
	if err != nil {
		panic(badInstr)
	}
	return i
}

// load reads a number of so many bytes.
func (c *CPU) load(addr uint64, size int) uint64 {
	var word [mem.WordSize]byte
	b := word[:size]
	if !c.Space.Get(b, addr, mem.Read) {
		panic(badAddress)
	}
	return mem.Number(b)
}

// store writes the lowest bytes of n.
func (c *CPU) store(addr uint64, size int, n uint64) {
	var word [mem.WordSize]byte
	mem.PutWords(word[:], n)
	if !c.Space.Set(addr, word[:size]) {
		panic(badAddress)
	}
}
