package kernel

import (
	"tinyos/api"
	"tinyos/mem"
)

// The registers that an Ecall takes a call from. Its answer comes into the first two: N, or an error, and M.
const (
	kindReg = iota + 1
	aReg
	bReg
	textReg // S's address
	dataReg // the address of D, or of L's addresses, or of where the answer's D is written
	sizeReg // how many bytes D has
)

const (
	maxText = 64              // bytes of a text that are looked at
	maxList = api.MaxArgs + 1 // addresses of a list that are looked at
)

// part is what a call has in memory: a sum of these.
type part int

const (
	hasText part = 1 << iota
	hasList
	hasData
	hasRoom // for the bytes that it answers
)

// parts lists what each call has in memory, by its kind.
var parts = [api.Restore + 1]part{
	api.Exec:       hasText | hasList,
	api.Open:       hasText,
	api.Read:       hasRoom,
	api.Write:      hasData,
	api.Unlink:     hasText,
	api.Mkdir:      hasText,
	api.Peek:       hasRoom,
	api.Poke:       hasData,
	api.Checkpoint: hasText,
	api.Restore:    hasText,
}

// ecall makes the call that a process's registers tell of.
func (k *Kernel) ecall(p *process) {
	c, err := p.asked()
	var r api.Result
	if err == nil {
		r, err = k.call(p, c)
	}
	switch e := api.Tell(err); e {
	case api.OK:
		k.answer(p, c.Kind, r)
	case api.ErrAgain: // PC stays, so that the next step makes the call again
	default:
		p.resume(-uint64(e), p.Regs[aReg])
	}
}

// answer has a process go on with what its call answered. One that ended stays as it was.
func (k *Kernel) answer(p *process, kind api.Kind, r api.Result) {
	if p.state == api.Zombie {
		return
	}
	switch kind {
	case api.Exec: // the process begins anew
	case api.Fork:
		child := k.procs[r.N]
		child.resume(0, child.Regs[aReg])
		fallthrough
	default:
		p.Space.Set(p.Regs[dataReg], r.D) // readParts made sure of the room
		p.resume(uint64(r.N), uint64(r.M))
	}
}

// resume goes on behind an Ecall, with its answer.
func (p *process) resume(n, m uint64) {
	p.Regs[kindReg] = n
	p.Regs[aReg] = m
	p.GoOn()
}

// asked is the call that the registers tell of, with what it has in memory.
func (p *process) asked() (api.Call, error) {
	c := api.Call{Kind: api.Kind(p.Regs[kindReg]), A: int(p.Regs[aReg]), B: int(p.Regs[bReg])}
	if !isKind(c.Kind) {
		return api.Call{}, api.ErrCall
	}
	if !p.readParts(&c, parts[c.Kind]) {
		return api.Call{}, api.ErrMemory
	}
	return c, nil
}

// readParts reads what a call has in memory; false, if something can't be read, or there is no room for what it answers.
func (p *process) readParts(c *api.Call, has part) bool {
	ok := true
	if has&hasText != 0 {
		c.S, ok = p.text(p.Regs[textReg])
	}
	if ok && has&hasList != 0 {
		c.L, ok = p.list(p.Regs[dataReg])
	}
	if ok && has&hasData != 0 {
		c.D, ok = p.data(p.Regs[dataReg], p.Regs[sizeReg])
	}
	if ok && has&hasRoom != 0 {
		ok = p.Space.May(mem.Write, p.Regs[dataReg], c.B) // a B below 0 asks for no room: the call itself refuses it
	}
	return ok
}

// text reads the bytes from an address on, up to a byte 0 or as many as are looked at.
func (p *process) text(addr uint64) (string, bool) {
	var text []byte
	var b [1]byte
	for i := range uint64(maxText) {
		if !p.Space.Get(b[:], addr+i, mem.Read) {
			return "", false
		}
		if b[0] == 0 {
			break
		}
		text = append(text, b[0])
	}
	return string(text), true
}

// list reads the texts whose addresses stand from an address on, up to an address 0 or as many as are looked at.
func (p *process) list(addr uint64) ([]string, bool) {
	var list []string
	var word [mem.WordSize]byte
	for i := range uint64(maxList) {
		if !p.Space.Get(word[:], addr+i*mem.WordSize, mem.Read) {
			return nil, false
		}
		at := mem.Number(word[:])
		if at == 0 {
			break
		}
		text, ok := p.text(at)
		if !ok {
			return nil, false
		}
		list = append(list, text)
	}
	return list, true
}

func (p *process) data(addr, size uint64) ([]byte, bool) {
	if size > api.MaxData {
		return nil, false
	}
	b := make([]byte, size)
	return b, p.Space.Get(b, addr, mem.Read)
}
