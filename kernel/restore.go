package kernel

import (
	"slices"

	"tinyos/api"
	"tinyos/cpu"
	"tinyos/fs"
	"tinyos/image"
	"tinyos/mem"
	"tinyos/stream"
)

func (k *Kernel) restore(p *process, c api.Call) (api.Result, error) {
	file, err := k.tree.Find(c.S)
	if err != nil {
		return api.Result{}, err
	}
	t, err := image.Decode(file.Bytes())
	if err != nil {
		return api.Result{}, err
	}
	if err := k.mayNumber(t.Procs); err != nil {
		return api.Result{}, err
	}
	named, err := k.findAll(t.Objects)
	if err != nil {
		return api.Result{}, err
	}
	if err := k.mayHold(t); err != nil {
		return api.Result{}, err
	}
	streams := append(k.unowned(), k.reopen(t, named)...)
	for _, told := range t.Procs {
		k.revive(told, p.pid, streams)
	}
	return api.Result{N: t.Root()}, nil
}

// mayNumber tells what stands against the numbers of processes.
func (k *Kernel) mayNumber(procs []image.Proc) error {
	for _, p := range procs {
		if k.procs[p.PID] != nil {
			return api.ErrBusy
		}
	}
	for _, p := range procs {
		if p.PID > k.limits.Procs {
			return api.ErrProcs
		}
	}
	return nil
}

// findAll is the file of each object that has a path, by the objects' numbers.
func (k *Kernel) findAll(objects []image.Object) ([]*fs.Node, error) {
	files := make([]*fs.Node, len(objects))
	for i, o := range objects {
		if o.Kind != image.Named {
			continue
		}
		file, err := k.tree.Find(o.Path)
		if err != nil {
			return nil, err
		}
		files[i] = file
	}
	return files, nil
}

// mayHold tells whether there is not enough left of something for a tree.
func (k *Kernel) mayHold(t image.Tree) error {
	pages, size := 0, 0
	for _, p := range t.Procs {
		pages += len(p.Pages)
	}
	for _, b := range t.Files {
		size += len(b)
	}
	if pages > k.freeFrames() {
		return api.ErrMemory
	}
	if !k.hasObjects(len(t.Objects)) || !k.tree.HasRoom(len(t.Files), size) {
		return api.ErrFull
	}
	return nil
}

// ends are both those of a pipe.
type ends struct {
	read  *stream.ReadEnd
	write *stream.WriteEnd
}

// reopen makes the objects of a tree anew. It asks for enough of everything, and for the files of those that have a path.
func (k *Kernel) reopen(t image.Tree, named []*fs.Node) []stream.Stream {
	var nameless []*fs.Node
	for _, b := range t.Files {
		nameless = append(nameless, k.tree.Nameless(b))
	}
	var pipes []ends
	for _, b := range t.Pipes {
		r, w := stream.NewPipe(b...)
		pipes = append(pipes, ends{r, w})
	}
	var streams []stream.Stream
	for i, o := range t.Objects {
		switch o.Kind {
		case image.Named:
			streams = append(streams, k.openAt(named[i], o.Offset))
		case image.Nameless:
			streams = append(streams, k.openAt(nameless[o.Which], o.Offset))
		case image.ReadEnd:
			streams = append(streams, pipes[o.Which].read)
		case image.WriteEnd:
			streams = append(streams, pipes[o.Which].write)
		}
	}
	for _, e := range pipes {
		closeUnless(streams, e.read, e.write)
	}
	return streams
}

func (k *Kernel) openAt(file *fs.Node, offset int) *stream.File {
	f := stream.Open(k.tree, file)
	f.Seek(offset)
	return f
}

// closeUnless closes those that are not among streams: nobody had them when the image was made.
func closeUnless(streams []stream.Stream, list ...stream.Stream) {
	for _, s := range list {
		if !slices.Contains(streams, s) {
			s.Close()
		}
	}
}

// revive makes a process that is as an image tells. Its root becomes a child of the parent.
func (k *Kernel) revive(told image.Proc, parent int, streams []stream.Stream) {
	p := &process{
		CPU:    cpu.CPU{PC: told.PC, Regs: told.Regs, Space: mem.NewSpace(told.Pages...)},
		pid:    told.PID,
		parent: told.Parent,
		state:  told.State,
		status: told.Status,
	}
	if told.IsRoot() {
		p.parent = parent
	}
	for fd, of := range told.Of {
		p.fds[fd] = streams[of]
	}
	k.procs[p.pid] = p
	if told.State == api.Sleeping {
		k.clock.lull(p, told.Left)
	}
}
