package kernel

import (
	"tinyos/api"
	"tinyos/stream"
)

// What Open's A is a sum of.
const (
	toMake  = 1 << iota // a file that is missing is made
	toEmpty             // the file's bytes are gone
)

// hasObjects tells whether so many objects are free.
func (k *Kernel) hasObjects(count int) bool { return count <= k.limits.Objects-len(k.objects()) }

func (k *Kernel) mkdir(_ *process, c api.Call) (api.Result, error) {
	return api.Result{}, k.tree.Mkdir(c.S)
}

func (k *Kernel) unlink(_ *process, c api.Call) (api.Result, error) {
	return api.Result{}, k.tree.Unlink(c.S)
}

func (k *Kernel) open(p *process, c api.Call) (api.Result, error) {
	at, err := k.tree.Follow(c.S)
	if err != nil {
		return api.Result{}, err
	}
	if !isWithin(c.A, 0, toMake|toEmpty) {
		return api.Result{}, api.ErrArgs
	}
	if err := k.tree.MayOpen(at, c.A&toMake != 0); err != nil {
		return api.Result{}, err
	}
	fd := leastFree(0, p.at)
	if fd >= api.MaxFds {
		return api.Result{}, api.ErrFds
	}
	if !k.hasObjects(1) {
		return api.Result{}, api.ErrFull
	}
	file := k.tree.File(at)
	if c.A&toEmpty != 0 {
		k.tree.Empty(file)
	}
	p.fds[fd] = stream.Open(k.tree, file)
	return api.Result{N: fd}, nil
}

func (k *Kernel) pipe(p *process, _ api.Call) (api.Result, error) {
	reads := leastFree(0, p.at)
	writes := leastFree(reads+1, p.at)
	if writes >= api.MaxFds {
		return api.Result{}, api.ErrFds
	}
	if !k.hasObjects(2) {
		return api.Result{}, api.ErrFull
	}
	p.fds[reads], p.fds[writes] = stream.NewPipe()
	return api.Result{N: reads, M: writes}, nil
}

func (k *Kernel) dup(p *process, c api.Call) (api.Result, error) {
	s := p.at(c.A)
	if s == nil {
		return api.Result{}, api.ErrFd
	}
	fd := leastFree(0, p.at)
	if fd >= api.MaxFds {
		return api.Result{}, api.ErrFds
	}
	p.fds[fd] = s
	return api.Result{N: fd}, nil
}

func (k *Kernel) close(p *process, c api.Call) (api.Result, error) {
	if p.at(c.A) == nil {
		return api.Result{}, api.ErrFd
	}
	k.free(p, c.A)
	return api.Result{}, nil
}

// free makes a descriptor free, and what it was of, if it was the last one.
func (k *Kernel) free(p *process, fd int) {
	s := p.fds[fd]
	p.fds[fd] = nil
	if s != nil && k.objects()[s] == 0 {
		s.Close()
	}
}

func (k *Kernel) read(p *process, c api.Call) (api.Result, error) {
	if s, ok := p.at(c.A).(stream.Reader); ok {
		return readFrom(s, c.B)
	}
	return api.Result{}, api.ErrFd
}

func readFrom(s stream.Reader, most int) (api.Result, error) {
	if !isWithin(most, 0, api.MaxData) {
		return api.Result{}, api.ErrArgs
	}
	b, err := s.Read(most)
	return api.Result{N: len(b), D: b}, err
}

func (k *Kernel) write(p *process, c api.Call) (api.Result, error) {
	if s, ok := p.at(c.A).(stream.Writer); ok {
		return writeTo(s, c.D)
	}
	return api.Result{}, api.ErrFd
}

func writeTo(s stream.Writer, b []byte) (api.Result, error) {
	if len(b) > api.MaxData {
		return api.Result{}, api.ErrArgs
	}
	count, err := s.Write(b)
	return api.Result{N: count}, err
}

func (k *Kernel) seek(p *process, c api.Call) (api.Result, error) {
	file, ok := p.at(c.A).(*stream.File)
	if !ok {
		return api.Result{}, api.ErrFd
	}
	if !isWithin(c.B, 0, api.MaxSeek) {
		return api.Result{}, api.ErrArgs
	}
	file.Seek(c.B)
	return api.Result{}, nil
}
