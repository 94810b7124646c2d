package kernel

import (
	"tinyos/api"
	"tinyos/cpu"
	"tinyos/exe"
	"tinyos/mem"
	"tinyos/stream"
)

const stackPointer = 15 // the register that has it

// process is a CPU of its own, and what the kernel knows of it.
type process struct {
	cpu.CPU
	pid, parent int
	state       api.State
	status      int                       // of a zombie
	fds         [api.MaxFds]stream.Stream // nil, where a descriptor is free
}

// newProcess has the console, and no pages yet.
func newProcess(pid, parent int, console *stream.Console) *process {
	p := &process{pid: pid, parent: parent}
	for fd := range 3 {
		p.fds[fd] = console
	}
	return p
}

// at is what a descriptor is of; nil, if it is free, or no number of a descriptor.
func (p *process) at(fd int) stream.Stream {
	if !isWithin(fd, 0, api.MaxFds-1) {
		return nil
	}
	return p.fds[fd]
}

// exec has a process go on with an executable; with an error it is as it was.
func (k *Kernel) exec(p *process, path string, args []string) error {
	at, err := k.tree.Follow(path)
	if err != nil {
		return err
	}
	if err := k.tree.MayOpen(at, false); err != nil {
		return err
	}
	plan, err := exe.Load(at.Node().Bytes())
	if err != nil {
		return err
	}
	stack, sp, err := exe.Stack(args)
	if err != nil {
		return err
	}
	pages := append(plan.Pages, stack...)
	if others := k.frames() - p.Space.Count(); len(pages) > k.limits.Frames-others {
		return api.ErrMemory
	}
	p.CPU = cpu.CPU{PC: plan.Entry, Space: mem.NewSpace(pages...)}
	p.Regs[stackPointer] = sp
	return nil
}

// end makes a process a zombie.
func (k *Kernel) end(p *process, status int) {
	p.state = api.Zombie
	p.status = status
	p.Space = mem.Space{}
	for fd := range p.fds {
		k.free(p, fd)
	}
	for _, child := range k.procs {
		if child.parent == p.pid {
			child.parent = first
		}
	}
}

func (p *process) tell() api.Proc {
	return api.Proc{
		PID:    p.pid,
		Parent: p.parent,
		State:  p.state,
		Status: p.status,
		PC:     p.PC,
		Regs:   p.Regs,
		Pages:  p.Space.Pages(),
		Fds:    p.tellFds(),
	}
}

func (p *process) tellFds() []api.Fd {
	var fds []api.Fd
	for number, s := range p.fds {
		if s != nil {
			fds = append(fds, tellFd(number, s))
		}
	}
	return fds
}

func tellFd(number int, s stream.Stream) api.Fd {
	fd := api.Fd{Number: number}
	switch s := s.(type) {
	case *stream.File:
		fd.Kind = api.FileFd
		fd.Offset = s.Offset()
	case *stream.ReadEnd:
		fd.Kind = api.ReadFd
	case *stream.WriteEnd:
		fd.Kind = api.WriteFd
	case *stream.Console:
		fd.Kind = api.ConsoleFd
	}
	return fd
}
