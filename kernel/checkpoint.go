package kernel

import (
	"slices"

	"tinyos/api"
	"tinyos/fs"
	"tinyos/image"
	"tinyos/stream"
)

func (k *Kernel) checkpoint(p *process, c api.Call) (api.Result, error) {
	root := k.procs[c.A]
	if root == nil || root == p || !k.isBelow(root, p) {
		return api.Result{}, api.ErrPid
	}
	at, err := k.tree.Follow(c.S)
	if err != nil {
		return api.Result{}, err
	}
	if at.Node() != nil {
		return api.Result{}, api.ErrExists
	}
	procs, others := k.part(root)
	if areTied(procs, others) {
		return api.Result{}, api.ErrShared
	}
	b := image.Encode(k.gather(root, procs))
	if len(b) > api.MaxSeek || !k.tree.HasRoom(1, len(b)) {
		return api.Result{}, api.ErrFull
	}
	return api.Result{N: len(procs)}, k.tree.Write(k.tree.File(at), 0, b)
}

// isBelow tells whether a process is in the tree of a root.
func (k *Kernel) isBelow(p, root *process) bool {
	for p != nil && p != root {
		p = k.procs[p.parent]
	}
	return p == root
}

// part tells the processes of a root's tree, and all others, by their numbers.
func (k *Kernel) part(root *process) (tree, others []*process) {
	for _, p := range k.all() {
		if k.isBelow(p, root) {
			tree = append(tree, p)
		} else {
			others = append(others, p)
		}
	}
	return tree, others
}

// areTied tells whether something that processes have descriptors of belongs together with something of others.
func areTied(procs, others []*process) bool {
	theirs := bonds(others)
	return slices.ContainsFunc(bonds(procs), func(bond any) bool { return slices.Contains(theirs, bond) })
}

func bonds(procs []*process) []any {
	var list []any
	for _, p := range procs {
		for _, s := range p.fds {
			if s != nil && s.Bond() != nil {
				list = append(list, s.Bond())
			}
		}
	}
	return list
}

// gathering is what was met so far of what a tree's descriptors are of.
type gathering struct {
	streams []stream.Stream // by the numbers that an image has for them
	files   []*fs.Node      // that were unlinked
	pipes   []*stream.Pipe
}

// place is where a thing is in a list; it is put at the end, if it is not there yet.
func place[T comparable](list *[]T, thing T) int {
	at := slices.Index(*list, thing)
	if at < 0 {
		at = len(*list)
		*list = append(*list, thing)
	}
	return at
}

// gather tells all of a tree that an image has.
func (k *Kernel) gather(root *process, procs []*process) image.Tree {
	var t image.Tree
	g := gathering{streams: k.unowned()}
	for _, p := range procs {
		told := image.Proc{Proc: k.tell(p)}
		told.Fds = nil
		if p == root {
			told.Parent = 0 // it is not of the tree
		}
		for fd, s := range p.fds {
			told.Of[fd] = place(&g.streams, s)
		}
		t.Procs = append(t.Procs, told)
	}
	for _, s := range g.streams[image.Objects:] {
		t.Objects = append(t.Objects, g.object(s))
	}
	for _, file := range g.files {
		t.Files = append(t.Files, file.Bytes())
	}
	for _, pipe := range g.pipes {
		t.Pipes = append(t.Pipes, pipe.Bytes())
	}
	return t
}

// unowned are the streams that are no objects, by the numbers that an image has for them.
func (k *Kernel) unowned() []stream.Stream {
	return []stream.Stream{image.Free: nil, image.Console: k.console}
}

func (g *gathering) object(s stream.Stream) image.Object {
	var o image.Object
	switch s := s.(type) {
	case *stream.File:
		o.Path, o.Offset = s.Node().Path(), s.Offset()
		if o.Path == "" {
			o.Kind, o.Which = image.Nameless, place(&g.files, s.Node())
		}
	case *stream.ReadEnd:
		o.Kind, o.Which = image.ReadEnd, place(&g.pipes, s.Pipe)
	case *stream.WriteEnd:
		o.Kind, o.Which = image.WriteEnd, place(&g.pipes, s.Pipe)
	}
	return o
}
