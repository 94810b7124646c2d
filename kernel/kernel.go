// Package kernel: processes over a tree of files.
package kernel

import (
	"maps"
	"slices"

	"tinyos/api"
	"tinyos/fs"
)

const (
	maxLimit = 100000 // the greatest limit of objects, inodes and bytes
	first    = 1      // the process that Boot makes
)

// Kernel is processes and files.
type Kernel struct {
	limits api.Limits
	tree   *fs.Tree
	procs  map[int]*process // by their numbers
}

// Boot makes the files, and process 1, which executes /init.
func Boot(l api.Limits, files []api.File) (*Kernel, error) {
	if !areLimits(l) {
		return nil, api.ErrArgs
	}
	tree, err := fs.New(l.Inodes, l.Bytes)
	if err != nil {
		return nil, err
	}
	for _, f := range files {
		if err := makeFile(tree, f); err != nil {
			return nil, err
		}
	}
	p := newProcess(first, 0)
	k := &Kernel{limits: l, tree: tree, procs: map[int]*process{first: p}}
	if err := k.exec(p, "/init", []string{"init"}); err != nil {
		return nil, err
	}
	return k, nil
}

func areLimits(l api.Limits) bool {
	return isWithin(l.Procs, 1, api.MaxProcs) &&
		isWithin(l.Frames, 1, api.MaxFrames) &&
		isWithin(l.Objects, 0, maxLimit) &&
		isWithin(l.Inodes, 0, maxLimit) &&
		isWithin(l.Bytes, 0, maxLimit)
}

func isWithin(n, least, most int) bool { return least <= n && n <= most }

func makeFile(tree *fs.Tree, f api.File) error {
	if f.Dir {
		return tree.Mkdir(f.Path)
	}
	n, err := tree.Make(f.Path)
	if err != nil {
		return err
	}
	return tree.Write(n, f.Bytes)
}

// Step has a process do one instruction.
func (k *Kernel) Step(pid int) error {
	p, err := k.ready(pid)
	if err != nil {
		return err
	}
	if status := p.Step(); status != 0 {
		k.end(p, status)
	}
	return nil
}

// ready is the process with this number, if it can do something.
func (k *Kernel) ready(pid int) (*process, error) {
	p := k.procs[pid]
	if p == nil {
		return nil, &api.CallError{PID: pid, Err: api.ErrPid}
	}
	if p.state != api.Ready {
		return nil, &api.CallError{PID: pid, Err: api.ErrState}
	}
	return p, nil
}

// Procs tells all processes, by their numbers.
func (k *Kernel) Procs() []api.Proc {
	procs := make([]api.Proc, 0, len(k.procs))
	for _, pid := range slices.Sorted(maps.Keys(k.procs)) {
		procs = append(procs, k.procs[pid].tell())
	}
	return procs
}

// Files tells all files and directories but the root, by the bytes of their paths.
func (k *Kernel) Files() []api.File { return k.tree.Files() }

// Used tells how much of the limits is used.
func (k *Kernel) Used() api.Limits {
	return api.Limits{
		Procs:  len(k.procs),
		Frames: k.frames(),
		Inodes: k.tree.Inodes(),
		Bytes:  k.tree.Bytes(),
	}
}

// frames tells how many pages all processes have.
func (k *Kernel) frames() int {
	count := 0
	for _, p := range k.procs {
		count += p.Space.Count()
	}
	return count
}
