package tinyos_test

import (
	"bytes"
	"math/rand/v2"
	"slices"
	"strings"
	"testing"

	"tinyos/api"
)

// inode is a file, or a directory, of the model.
type inode struct {
	dir   bool
	bytes []byte
}

// thing is what a descriptor of the model is of.
type thing struct {
	kind   api.FdKind
	file   *inode
	offset int
	bytes  *[]byte // of a pipe, both ends have the same ones
	other  *thing  // the other end
}

// model is a kernel by the document's words, as far as the calls on files, pipes and the console go. It counts where the program keeps.
type model struct {
	limits         api.Limits
	names          map[string]*inode // by their paths, without the root
	fds            [8]*thing
	typed, written []byte
}

func newModel(l api.Limits, files []api.File) *model {
	m := &model{limits: l, names: map[string]*inode{}}
	for _, f := range files {
		m.names[f.Path] = &inode{f.Dir, slices.Clone(f.Bytes)}
	}
	console := &thing{kind: api.ConsoleFd}
	m.fds = [8]*thing{console, console, console}
	return m
}

// inodes are all that there are: those in the tree, and those that objects are of.
func (m *model) inodes() map[*inode]bool {
	all := map[*inode]bool{{dir: true}: true}
	for _, n := range m.names {
		all[n] = true
	}
	for _, o := range m.fds {
		if o != nil && o.file != nil {
			all[o.file] = true
		}
	}
	return all
}

func (m *model) used() api.Limits {
	objects := map[*thing]bool{}
	for _, o := range m.fds {
		if o != nil && o.kind != api.ConsoleFd {
			objects[o] = true
		}
	}
	u := api.Limits{Procs: 1, Frames: 3, Objects: len(objects)}
	for n := range m.inodes() {
		u.Inodes++
		u.Bytes += len(n.bytes)
	}
	return u
}

// lead is P8's errors of a path.
func (m *model) lead(path string) api.Errno {
	if path == "/" {
		return api.OK
	}
	parts := strings.Split(path, "/")
	if len(path) > 60 || len(parts) < 2 || parts[0] != "" {
		return api.ErrPath
	}
	for _, name := range parts[1:] {
		if name == "" || name == "." || name == ".." || len(name) > 14 || strings.Contains(name, "\x00") {
			return api.ErrPath
		}
	}
	for i := 2; i < len(parts); i++ {
		n := m.names[strings.Join(parts[:i], "/")]
		if n == nil {
			return api.ErrMissing
		}
		if !n.dir {
			return api.ErrDir
		}
	}
	return api.OK
}

func (m *model) mkdir(path string) answer {
	if e := m.lead(path); e != api.OK {
		return fails(e)
	}
	if path == "/" || m.names[path] != nil {
		return fails(api.ErrExists)
	}
	if m.used().Inodes == m.limits.Inodes {
		return fails(api.ErrFull)
	}
	m.names[path] = &inode{dir: true}
	return done()
}

func (m *model) unlink(path string) answer {
	if e := m.lead(path); e != api.OK {
		return fails(e)
	}
	if path == "/" {
		return fails(api.ErrBusy)
	}
	if m.names[path] == nil {
		return fails(api.ErrMissing)
	}
	for other := range m.names {
		if strings.HasPrefix(other, path+"/") {
			return fails(api.ErrBusy)
		}
	}
	delete(m.names, path)
	return done()
}

// free are the descriptors that are free, the least first.
func (m *model) free() []int {
	var list []int
	for i, o := range m.fds {
		if o == nil {
			list = append(list, i)
		}
	}
	return list
}

func (m *model) open(path string, a int) answer {
	if e := m.lead(path); e != api.OK {
		return fails(e)
	}
	if a < 0 || a > 3 {
		return fails(api.ErrArgs)
	}
	n := m.names[path]
	if n == nil && path != "/" {
		if a == 0 || a == 2 {
			return fails(api.ErrMissing)
		}
		if m.used().Inodes == m.limits.Inodes {
			return fails(api.ErrFull)
		}
		n = &inode{}
	}
	if path == "/" || n.dir {
		return fails(api.ErrDir)
	}
	if len(m.free()) == 0 {
		return fails(api.ErrFds)
	}
	if m.used().Objects == m.limits.Objects {
		return fails(api.ErrFull)
	}
	if a >= 2 {
		n.bytes = nil
	}
	m.names[path] = n
	fd := m.free()[0]
	m.fds[fd] = &thing{kind: api.FileFd, file: n}
	return is(fd)
}

func (m *model) pipe() answer {
	free := m.free()
	if len(free) < 2 {
		return fails(api.ErrFds)
	}
	if m.used().Objects+2 > m.limits.Objects {
		return fails(api.ErrFull)
	}
	b := []byte(nil)
	r, w := &thing{kind: api.ReadFd, bytes: &b}, &thing{kind: api.WriteFd, bytes: &b}
	r.other, w.other = w, r
	m.fds[free[0]], m.fds[free[1]] = r, w
	return both(free[0], free[1])
}

func (m *model) at(fd int) *thing {
	if fd < 0 || fd > 7 {
		return nil
	}
	return m.fds[fd]
}

func (m *model) dup(fd int) answer {
	if m.at(fd) == nil {
		return fails(api.ErrFd)
	}
	free := m.free()
	if len(free) == 0 {
		return fails(api.ErrFds)
	}
	m.fds[free[0]] = m.fds[fd]
	return is(free[0])
}

func (m *model) shut(fd int) answer {
	if m.at(fd) == nil {
		return fails(api.ErrFd)
	}
	m.fds[fd] = nil
	return done()
}

func (m *model) seek(fd, offset int) answer {
	o := m.at(fd)
	if o == nil || o.kind != api.FileFd {
		return fails(api.ErrFd)
	}
	if offset < 0 || offset > 65536 {
		return fails(api.ErrArgs)
	}
	o.offset = offset
	return done()
}

func (m *model) read(fd, most int) answer {
	o := m.at(fd)
	if o == nil || o.kind == api.WriteFd {
		return fails(api.ErrFd)
	}
	if most < 0 || most > 4096 {
		return fails(api.ErrArgs)
	}
	if o.kind == api.FileFd {
		d := ""
		for len(d) < most && o.offset < len(o.file.bytes) {
			d += string(o.file.bytes[o.offset : o.offset+1])
			o.offset++
		}
		return gives(d)
	}
	from := &m.typed
	again := true
	if o.kind == api.ReadFd {
		from = o.bytes
		again = slices.Contains(m.fds[:], o.other)
	}
	if len(*from) == 0 && most != 0 && again {
		return fails(api.ErrAgain)
	}
	n := min(most, len(*from))
	d := string((*from)[:n])
	*from = slices.Clone((*from)[n:])
	return gives(d)
}

func (m *model) write(fd int, d []byte) answer {
	o := m.at(fd)
	if o == nil || o.kind == api.ReadFd {
		return fails(api.ErrFd)
	}
	if len(d) > 4096 {
		return fails(api.ErrArgs)
	}
	switch o.kind {
	case api.ConsoleFd:
		m.written = append(m.written, d...)
		return is(len(d))
	case api.FileFd:
		return m.writeFile(o, d)
	}
	if !slices.Contains(m.fds[:], o.other) {
		return fails(api.ErrPipe)
	}
	if len(*o.bytes) == 64 && len(d) > 0 {
		return fails(api.ErrAgain)
	}
	n := min(len(d), 64-len(*o.bytes))
	*o.bytes = append(*o.bytes, d[:n]...)
	return is(n)
}

func (m *model) writeFile(o *thing, d []byte) answer {
	if len(d) == 0 {
		return is(0)
	}
	b := slices.Clone(o.file.bytes)
	for len(b) < o.offset+len(d) {
		b = append(b, 0)
	}
	copy(b[o.offset:], d)
	if m.used().Bytes-len(o.file.bytes)+len(b) > m.limits.Bytes || len(b) > 65536 {
		return fails(api.ErrFull)
	}
	o.file.bytes = b
	o.offset += len(d)
	return is(len(d))
}

func (m *model) do(c api.Call) answer {
	switch c.Kind {
	case api.Getpid:
		return is(1)
	case api.Open:
		return m.open(c.S, c.A)
	case api.Close:
		return m.shut(c.A)
	case api.Read:
		return m.read(c.A, c.B)
	case api.Write:
		return m.write(c.A, c.D)
	case api.Seek:
		return m.seek(c.A, c.B)
	case api.Dup:
		return m.dup(c.A)
	case api.Pipe:
		return m.pipe()
	case api.Unlink:
		return m.unlink(c.S)
	case api.Mkdir:
		return m.mkdir(c.S)
	}
	return fails(api.ErrCall)
}

// whole is what a kernel tells, whose process is as it was but for its descriptors.
func (m *model) whole(p api.Proc) whole {
	p.Fds = nil
	for i, o := range m.fds {
		if o != nil {
			p.Fds = append(p.Fds, api.Fd{Number: i, Kind: o.kind, Offset: o.offset})
		}
	}
	w := whole{procs: []api.Proc{p}, used: m.used()}
	for path, n := range m.names {
		w.files = append(w.files, api.File{Path: path, Dir: n.dir, Bytes: n.bytes})
	}
	slices.SortFunc(w.files, func(f, g api.File) int { return strings.Compare(f.Path, g.Path) })
	return w
}

// anyOf is one of a list.
func anyOf[E any](r *rand.Rand, list ...E) E { return list[r.IntN(len(list))] }

// anyCallOf is a call that often succeeds, and often just not.
func anyCallOf(r *rand.Rand) api.Call {
	kinds := []api.Kind{api.Getpid, api.Open, api.Open, api.Open, api.Close, api.Read, api.Read, api.Read, api.Write, api.Write, api.Write, api.Seek, api.Close, api.Dup, api.Pipe, api.Pipe, api.Unlink, api.Mkdir}
	c := api.Call{Kind: anyOf(r, kinds...), A: r.IntN(8), B: r.IntN(12)}
	c.S = anyOf(r, "/a", "/b", "/d", "/d/a", "/d/b", "/d/d", "/d/d/a", "/a/a", "/", "/init")
	c.D = bytes.Repeat([]byte{byte('a' + r.IntN(26))}, r.IntN(12))
	switch {
	case c.Kind == api.Open:
		c.A = r.IntN(4)
	case c.Kind == api.Write && r.IntN(4) == 0:
		c.D = bytes.Repeat(c.D, r.IntN(10))
	case c.Kind == api.Read && r.IntN(4) == 0:
		c.B = anyOf(r, 0, 63, 64, 65, 4096)
	case c.Kind == api.Seek && r.IntN(8) == 0:
		c.B = anyOf(r, 100, 65535, 65536)
	}
	if r.IntN(20) == 0 {
		c.A = anyOf(r, -1, 4, 8, 9, 1<<40)
		c.B = anyOf(r, -1, 4097, 65537, 1<<40)
		c.S = anyOf(r, "", "a", "/a/", "//a", "/d/..", "/.", "/x/y", "/\x00", "/fifteen-bytes-x", strings.Repeat("/aa", 20), strings.Repeat("/aa", 20)+"a")
		c.D = bytes.Repeat([]byte("x"), anyOf(r, 0, 63, 64, 65, 4096, 4097))
	}
	if r.IntN(100) == 0 {
		c.Kind = anyOf(r, -1, 0, api.Restore+1, 99)
	}
	return c
}

// TestAnyScript holds scripts against the model, with limits that are reached.
func TestAnyScript(t *testing.T) {
	init := loop(t)
	for seed := range uint64(400) {
		r := rand.New(rand.NewPCG(7, seed))
		files := []api.File{dir("/d"), file("/a", "some text"), {Path: "/init", Bytes: init}}
		l := api.Limits{Procs: 1, Frames: 3, Objects: r.IntN(10), Inodes: 4 + r.IntN(8), Bytes: len(init) + 9 + r.IntN(120)}
		if r.IntN(3) == 0 {
			l.Bytes = 100000
		}
		k := bootLimited(t, l, files[:2]...)
		m := newModel(l, files)
		p := k.Procs()[0]
		for range 250 {
			if r.IntN(20) == 0 {
				text := strings.Repeat("t", r.IntN(9))
				typeIn(t, k, text)
				m.typed = append(m.typed, text...)
			}
			if r.IntN(20) == 0 {
				checkConsole(t, k, string(m.written))
				m.written = nil
			}
			c := anyCallOf(r)
			want := m.do(c)
			if got := ask(t, k, 1, c); got != want {
				t.Fatalf("seed %d: call %s: %+.100v, want %+.100v", seed, short(c), got, want)
			}
			if got, want := tellAll(k), m.whole(p); !got.same(want) {
				t.Fatalf("seed %d: after call %s descriptors %+v, used %+v, want %+v, %+v", seed, short(c), got.procs[0].Fds, got.used, want.procs[0].Fds, want.used)
			}
		}
	}
}
