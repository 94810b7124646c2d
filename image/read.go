package image

import (
	"tinyos/api"
	"tinyos/mem"
)

// reader goes through bytes. It is asked only at the end whether there were enough.
type reader struct {
	rest []byte
	lack bool // more was asked for than was left
}

// take answers the next bytes. They are the image's own, but what is appended to them doesn't go into it.
func (r *reader) take(count int) []byte {
	if count > len(r.rest) {
		r.lack = true
		count = len(r.rest)
	}
	b := r.rest[:count:count]
	r.rest = r.rest[count:]
	return b
}

// get reads numbers as put writes them.
func get[N integer](r *reader, size int, numbers ...*N) {
	for _, n := range numbers {
		*n = N(mem.Number(r.take(size)))
	}
}

// many reads so many things, or as many as there are.
func many[T any](r *reader, count int, next func() T) []T {
	var list []T
	for len(list) < count && !r.lack {
		list = append(list, next())
	}
	return list
}

// Decode reads an image; ErrImage, if the bytes are none. The lists of bytes in the answer are to be read only: they are pieces of b.
func Decode(b []byte) (Tree, error) {
	body, ok := unseal(b)
	if !ok || len(b) > api.MaxSeek {
		return Tree{}, api.ErrImage
	}
	r := &reader{rest: body}
	t := r.tree()
	if r.lack || len(r.rest) > 0 || !t.isRight() {
		return Tree{}, api.ErrImage
	}
	return t, nil
}

func (r *reader) tree() Tree {
	var procs, objects, files, pipes int
	get(r, small, &procs, &objects, &files, &pipes)
	var t Tree
	t.Procs = many(r, procs, r.proc)
	t.Objects = many(r, objects, r.object)
	t.Files = many(r, files, r.list)
	t.Pipes = many(r, pipes, r.list)
	return t
}

func (r *reader) proc() Proc {
	var p Proc
	var state, pages int
	get(r, small, &p.PID, &p.Parent, &state, &p.Status)
	p.State = api.State(state)
	get(r, wide, &p.Left)
	get(r, word, &p.PC)
	for i := range p.Regs {
		get(r, word, &p.Regs[i])
	}
	for fd := range p.Of {
		get(r, small, &p.Of[fd])
	}
	get(r, short, &pages)
	p.Pages = many(r, pages, r.page)
	return p
}

func (r *reader) page() api.Page {
	var g api.Page
	get(r, small, &g.Number)
	get(r, small, &g.Perm)
	copy(g.Bytes[:], r.take(api.PageSize))
	return g
}

func (r *reader) object() Object {
	var o Object
	get(r, small, &o.Kind)
	switch o.Kind {
	case Named:
		get(r, wide, &o.Offset)
		o.Path = string(r.list())
	case Nameless:
		get(r, wide, &o.Offset)
		fallthrough // which file it is stands there as which pipe it is does
	case ReadEnd, WriteEnd:
		get(r, small, &o.Which)
	}
	return o
}

func (r *reader) list() []byte {
	var count int
	get(r, wide, &count)
	return r.take(count)
}
