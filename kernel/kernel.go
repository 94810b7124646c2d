// Package kernel: processes over a tree of files and a console, and the calls that they make.
package kernel

import (
	"maps"
	"slices"

	"tinyos/api"
	"tinyos/fs"
	"tinyos/stream"
)

const (
	maxLimit = 100000 // the greatest limit of objects, inodes and bytes
	first    = 1      // the process that Boot makes
)

// Kernel is processes, files and a console.
type Kernel struct {
	limits  api.Limits
	tree    *fs.Tree
	console *stream.Console
	clock   clock
	procs   map[int]*process // by their numbers
}

// Boot makes the files, and process 1, which executes /init.
func Boot(l api.Limits, files []api.File) (*Kernel, error) {
	if !areLimits(l) {
		return nil, api.ErrArgs
	}
	tree, err := fs.New(l.Inodes, l.Bytes)
	if err != nil {
		return nil, err
	}
	for _, f := range files {
		if err := makeFile(tree, f); err != nil {
			return nil, err
		}
	}
	console := &stream.Console{}
	p := newProcess(first, 0, console)
	k := &Kernel{limits: l, tree: tree, console: console, procs: map[int]*process{first: p}}
	if err := k.execute(p, "/init", []string{"init"}); err != nil {
		return nil, err
	}
	return k, nil
}

func areLimits(l api.Limits) bool {
	return isWithin(l.Procs, 1, api.MaxProcs) &&
		isWithin(l.Frames, 1, api.MaxFrames) &&
		isWithin(l.Objects, 0, maxLimit) &&
		isWithin(l.Inodes, 0, maxLimit) &&
		isWithin(l.Bytes, 0, maxLimit)
}

func isWithin(n, least, most int) bool { return least <= n && n <= most }

func makeFile(tree *fs.Tree, f api.File) error {
	if f.Dir {
		return tree.Mkdir(f.Path)
	}
	at, err := tree.Follow(f.Path)
	if err != nil {
		return err
	}
	if err := tree.MayOpen(at, true); err != nil {
		return err
	}
	return tree.Write(tree.File(at), 0, f.Bytes)
}

// Do makes a call for a process.
func (k *Kernel) Do(pid int, c api.Call) (api.Result, error) {
	p, err := k.ready(pid)
	if err != nil {
		return api.Result{}, wrap(pid, err)
	}
	r, err := k.call(p, c)
	if err != nil {
		return api.Result{}, wrap(pid, err)
	}
	return r, nil
}

// Step has a process do one instruction.
func (k *Kernel) Step(pid int) error {
	p, err := k.ready(pid)
	if err != nil {
		return wrap(pid, err)
	}
	asks, status := p.Step()
	switch {
	case asks:
		k.ecall(p)
	case status != 0:
		k.end(p, status)
	}
	return nil
}

// ready is the process with this number, if it can do something.
func (k *Kernel) ready(pid int) (*process, error) {
	p := k.procs[pid]
	if p == nil {
		return nil, api.ErrPid
	}
	if p.state != api.Ready {
		return nil, api.ErrState
	}
	return p, nil
}

// wrap tells whose error it is.
func wrap(pid int, err error) error { return &api.CallError{PID: pid, Err: api.Tell(err)} }

// Tick tells that time goes on.
func (k *Kernel) Tick() { k.clock.tick() }

// Type gives the console what is typed.
func (k *Kernel) Type(b []byte) { k.console.Type(b) }

// Console tells what was written to the console since it was asked last.
func (k *Kernel) Console() []byte { return k.console.Tell() }

// Procs tells all processes, by their numbers.
func (k *Kernel) Procs() []api.Proc {
	procs := make([]api.Proc, 0, len(k.procs))
	for _, p := range k.all() {
		procs = append(procs, k.tell(p))
	}
	return procs
}

// all are the processes, by their numbers.
func (k *Kernel) all() []*process {
	list := make([]*process, 0, len(k.procs))
	for _, pid := range slices.Sorted(maps.Keys(k.procs)) {
		list = append(list, k.procs[pid])
	}
	return list
}

// Files tells all files and directories but the root, by the bytes of their paths.
func (k *Kernel) Files() []api.File { return k.tree.Files() }

// Used tells how much of the limits is used.
func (k *Kernel) Used() api.Limits {
	return api.Limits{
		Procs:   len(k.procs),
		Frames:  k.frames(),
		Objects: len(k.objects()),
		Inodes:  k.tree.Inodes(),
		Bytes:   k.tree.Bytes(),
	}
}

// frames tells how many pages all processes have.
func (k *Kernel) frames() int {
	count := 0
	for _, p := range k.procs {
		count += p.Space.Count()
	}
	return count
}

// freeFrames tells how many more pages there may be.
func (k *Kernel) freeFrames() int { return k.limits.Frames - k.frames() }

// objects tells of each object how many descriptors are of it. The console is none.
func (k *Kernel) objects() map[stream.Stream]int {
	counts := map[stream.Stream]int{}
	for _, p := range k.procs {
		for _, s := range p.fds {
			if s != nil && s != k.console {
				counts[s]++
			}
		}
	}
	return counts
}
