package kernel

import (
	"tinyos/api"
	"tinyos/cpu"
	"tinyos/exe"
	"tinyos/mem"
)

const stackPointer = 15 // the register that has it

// process is a CPU of its own, and what the kernel knows of it.
type process struct {
	cpu.CPU
	pid, parent int
	state       api.State
	status      int                    // of a zombie
	fds         [api.MaxFds]api.FdKind // 0, where a descriptor is free
}

// newProcess has the console, and no pages yet.
func newProcess(pid, parent int) *process {
	p := &process{pid: pid, parent: parent}
	for fd := range 3 {
		p.fds[fd] = api.ConsoleFd
	}
	return p
}

// exec has a process go on with an executable; with an error it is as it was.
func (k *Kernel) exec(p *process, path string, args []string) error {
	file, err := k.tree.Find(path)
	if err != nil {
		return err
	}
	if file.IsDir() {
		return api.ErrDir
	}
	plan, err := exe.Load(file.Bytes())
	if err != nil {
		return err
	}
	stack, sp, err := exe.Stack(args)
	if err != nil {
		return err
	}
	pages := append(plan.Pages, stack...)
	if others := k.frames() - p.Space.Count(); len(pages) > k.limits.Frames-others {
		return api.ErrMemory
	}
	p.CPU = cpu.CPU{PC: plan.Entry, Space: mem.NewSpace(pages...)}
	p.Regs[stackPointer] = sp
	return nil
}

// end makes a process a zombie.
func (k *Kernel) end(p *process, status int) {
	p.state = api.Zombie
	p.status = status
	p.Space = mem.Space{}
	p.fds = [api.MaxFds]api.FdKind{}
	for _, child := range k.procs {
		if child.parent == p.pid {
			child.parent = first
		}
	}
}

func (p *process) tell() api.Proc {
	return api.Proc{
		PID:    p.pid,
		Parent: p.parent,
		State:  p.state,
		Status: p.status,
		PC:     p.PC,
		Regs:   p.Regs,
		Pages:  p.Space.Pages(),
		Fds:    p.tellFds(),
	}
}

func (p *process) tellFds() []api.Fd {
	var fds []api.Fd
	for i, kind := range p.fds {
		if kind != 0 {
			fds = append(fds, api.Fd{Number: i, Kind: kind})
		}
	}
	return fds
}
