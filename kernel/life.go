package kernel

import (
	"tinyos/api"
	"tinyos/mem"
)

const killed = 137 // the status of a process that was killed

func (k *Kernel) fork(p *process, _ api.Call) (api.Result, error) {
	if len(k.procs) >= k.limits.Procs {
		return api.Result{}, api.ErrProcs
	}
	if p.Space.Count() > k.freeFrames() {
		return api.Result{}, api.ErrMemory
	}
	pid := leastFree(first, func(pid int) *process { return k.procs[pid] })
	k.procs[pid] = &process{CPU: p.CPU, pid: pid, parent: p.pid, fds: p.fds}
	return api.Result{N: pid}, nil
}

func (k *Kernel) exit(p *process, c api.Call) (api.Result, error) {
	if p.pid == first {
		return api.Result{}, api.ErrPid
	}
	k.end(p, int(byte(c.A))) // the lowest byte is A mod 256, of numbers below 0 too
	return api.Result{}, nil
}

func (k *Kernel) kill(_ *process, c api.Call) (api.Result, error) {
	p := k.procs[c.A]
	if p == nil || p.state == api.Zombie || p.pid == first {
		return api.Result{}, api.ErrPid
	}
	k.end(p, killed)
	return api.Result{}, nil
}

// end makes a process a zombie.
func (k *Kernel) end(p *process, status int) {
	if p.state == api.Sleeping {
		k.clock.forget(p)
	}
	p.state = api.Zombie
	p.status = status
	p.Space = mem.Space{}
	for fd := range p.fds {
		k.free(p, fd)
	}
	for _, child := range k.children(p) {
		child.parent = first
	}
}

// children are those of a process, by their numbers.
func (k *Kernel) children(p *process) []*process {
	var list []*process
	for _, child := range k.all() {
		if child.parent == p.pid {
			list = append(list, child)
		}
	}
	return list
}

func (k *Kernel) wait(p *process, _ api.Call) (api.Result, error) {
	children := k.children(p)
	if len(children) == 0 {
		return api.Result{}, api.ErrChild
	}
	for _, child := range children {
		if child.state == api.Zombie {
			delete(k.procs, child.pid)
			return api.Result{N: child.pid, M: child.status}, nil
		}
	}
	return api.Result{}, api.ErrAgain
}
