package kernel

import (
	"tinyos/api"
	"tinyos/cpu"
	"tinyos/exe"
	"tinyos/mem"
)

const (
	stackPointer = 15 // the register that has it
	maxBrk       = 64 // pages that Brk makes at a time
)

func (k *Kernel) exec(p *process, c api.Call) (api.Result, error) {
	return api.Result{}, k.execute(p, c.S, c.L)
}

// execute has a process go on with an executable; with an error it is as it was.
func (k *Kernel) execute(p *process, path string, args []string) error {
	file, err := k.tree.Find(path)
	if err != nil {
		return err
	}
	plan, err := exe.Load(file.Bytes())
	if err != nil {
		return err
	}
	stack, sp, err := exe.Stack(args)
	if err != nil {
		return err
	}
	pages := append(plan.Pages, stack...)
	if len(pages) > k.freeFrames()+p.Space.Count() {
		return api.ErrMemory
	}
	p.CPU = cpu.CPU{PC: plan.Entry, Space: mem.NewSpace(pages...)}
	p.Regs[stackPointer] = sp
	return nil
}

func (k *Kernel) brk(p *process, c api.Call) (api.Result, error) {
	if !isWithin(c.A, 0, maxBrk) {
		return api.Result{}, api.ErrArgs
	}
	at := p.Space.Break()
	if c.A > k.freeFrames() || at+c.A > api.StackPage {
		return api.Result{}, api.ErrMemory
	}
	p.Space.Add(at, c.A)
	return api.Result{N: at * api.PageSize}, nil
}

func (k *Kernel) peek(p *process, c api.Call) (api.Result, error) {
	if !isWithin(c.B, 0, api.MaxData) {
		return api.Result{}, api.ErrArgs
	}
	b := make([]byte, c.B)
	if !p.Space.Get(b, uint64(c.A), mem.Read) {
		return api.Result{}, api.ErrMemory
	}
	return api.Result{N: len(b), D: b}, nil
}

func (k *Kernel) poke(p *process, c api.Call) (api.Result, error) {
	if len(c.D) > api.MaxData {
		return api.Result{}, api.ErrArgs
	}
	if !p.Space.Set(uint64(c.A), c.D) {
		return api.Result{}, api.ErrMemory
	}
	return api.Result{N: len(c.D)}, nil
}
