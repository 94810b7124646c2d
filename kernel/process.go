package kernel

import (
	"tinyos/api"
	"tinyos/cpu"
	"tinyos/stream"
)

// process is a CPU of its own, and what the kernel knows of it.
type process struct {
	cpu.CPU
	pid, parent int
	state       api.State
	status      int                       // of a zombie
	wakes       int                       // by which tick, of one that sleeps
	fds         [api.MaxFds]stream.Stream // nil, where a descriptor is free
}

// newProcess has the console, and no pages yet.
func newProcess(pid, parent int, console *stream.Console) *process {
	p := &process{pid: pid, parent: parent}
	for fd := range 3 {
		p.fds[fd] = console
	}
	return p
}

// at is what a descriptor is of; nil, if it is free, or no number of a descriptor.
func (p *process) at(fd int) stream.Stream {
	if !isWithin(fd, 0, api.MaxFds-1) {
		return nil
	}
	return p.fds[fd]
}

func (k *Kernel) tell(p *process) api.Proc {
	return api.Proc{
		PID:    p.pid,
		Parent: p.parent,
		State:  p.state,
		Status: p.status,
		Left:   k.clock.left(p),
		PC:     p.PC,
		Regs:   p.Regs,
		Pages:  p.Space.Pages(),
		Fds:    p.tellFds(),
	}
}

func (p *process) tellFds() []api.Fd {
	var fds []api.Fd
	for number, s := range p.fds {
		if s != nil {
			fds = append(fds, tellFd(number, s))
		}
	}
	return fds
}

func tellFd(number int, s stream.Stream) api.Fd {
	fd := api.Fd{Number: number}
	switch s := s.(type) {
	case *stream.File:
		fd.Kind = api.FileFd
		fd.Offset = s.Offset()
	case *stream.ReadEnd:
		fd.Kind = api.ReadFd
	case *stream.WriteEnd:
		fd.Kind = api.WriteFd
	case *stream.Console:
		fd.Kind = api.ConsoleFd
	}
	return fd
}
