package tinyos_test

import (
	"math/rand/v2"
	"slices"
	"testing"

	"tinyos/api"
	"tinyos/tinyos"
)

// frozen is a tree of the model, as it was when its image was made. Its things are of nobody else.
type frozen struct {
	root  int
	procs []*being
}

// isIn tells whether a process is in the tree of another one.
func (m *model) isIn(pid, root int) bool {
	for p := m.at(pid); p != nil; p = m.at(p.Parent) {
		if p.PID == root {
			return true
		}
	}
	return false
}

// pathOf is a file's path; empty, if it was unlinked.
func (m *model) pathOf(n *inode) string {
	for path, other := range m.names {
		if other == n {
			return path
		}
	}
	return ""
}

// isShared is P17's words for ErrShared, one behind the other.
func (m *model) isShared(root int) bool {
	for _, p := range m.procs {
		for _, q := range m.procs {
			if !m.isIn(p.PID, root) || m.isIn(q.PID, root) {
				continue
			}
			for _, o := range p.fds {
				if o == nil || o.kind == api.ConsoleFd {
					continue
				}
				if slices.Contains(q.fds[:], o) || o.other != nil && slices.Contains(q.fds[:], o.other) {
					return true
				}
				if o.file != nil && m.pathOf(o.file) == "" && slices.ContainsFunc(q.fds[:], func(x *thing) bool { return x != nil && x.file == o.file }) {
					return true
				}
			}
		}
	}
	return false
}

// copier makes copies of things, those of the same thing once.
type copier struct {
	things map[*thing]*thing
	files  map[*inode]*inode
	pipes  map[*[]byte]*[]byte
	file   func(o *thing) *inode // the file that a copy with a path is of
}

func newCopier(file func(*thing) *inode) *copier {
	return &copier{map[*thing]*thing{}, map[*inode]*inode{}, map[*[]byte]*[]byte{}, file}
}

func (c *copier) thing(o *thing) *thing {
	if c.things[o] != nil {
		return c.things[o]
	}
	n := &thing{kind: o.kind, path: o.path, offset: o.offset}
	c.things[o] = n // ahead of the other end, whose other end it is
	if o.kind == api.FileFd {
		n.file = c.fileOf(o)
		return n
	}
	if c.pipes[o.bytes] == nil {
		b := slices.Clone(*o.bytes)
		c.pipes[o.bytes] = &b
	}
	n.bytes = c.pipes[o.bytes]
	n.other = c.thing(o.other)
	return n
}

func (c *copier) fileOf(o *thing) *inode {
	if o.path != "" {
		return c.file(o)
	}
	if c.files[o.file] == nil {
		c.files[o.file] = &inode{bytes: slices.Clone(o.file.bytes)}
	}
	return c.files[o.file]
}

func (c *copier) being(p *being) *being {
	q := &being{Proc: p.Proc}
	q.Pages = slices.Clone(p.Pages)
	for i, o := range p.fds {
		if o == nil || o.kind == api.ConsoleFd {
			q.fds[i] = o
		} else {
			q.fds[i] = c.thing(o)
		}
	}
	return q
}

// freeze copies a tree, with the paths of its files.
func (m *model) freeze(root int) frozen {
	for _, p := range m.procs {
		for _, o := range p.fds {
			if o != nil && o.file != nil {
				o.path = m.pathOf(o.file)
			}
		}
	}
	f := frozen{root: root}
	c := newCopier(func(*thing) *inode { return nil })
	for _, p := range m.procs {
		if m.isIn(p.PID, root) {
			f.procs = append(f.procs, c.being(p))
		}
	}
	return f
}

// sum tells of a tree its pages, its objects, the files that were unlinked, their bytes, and the bytes in its pipes. (A frozen thing has a file just if that was unlinked.)
func (f frozen) sum() (pages, objects, files, size, piped int) {
	things := map[*thing]bool{}
	inodes := map[*inode]bool{}
	pipes := map[*[]byte]bool{}
	for _, p := range f.procs {
		pages += len(p.Pages)
		for _, o := range p.fds {
			if o == nil || o.kind == api.ConsoleFd {
				continue
			}
			things[o] = true
			if o.file != nil {
				inodes[o.file] = true
			}
			if o.bytes != nil {
				pipes[o.bytes] = true
			}
		}
	}
	for n := range inodes {
		size += len(n.bytes)
	}
	for b := range pipes {
		piped += len(*b)
	}
	return pages, len(things), len(inodes), size, piped
}

// most is how many bytes an image of the tree has at most.
func (f frozen) most() int {
	pages, objects, _, size, piped := f.sum()
	return 1000 + 600*len(f.procs) + 300*pages + 200*objects + size + piped
}

// mayCheckpoint is P17's errors but for the bytes of the image.
func (m *model) mayCheckpoint(pid int, c api.Call) api.Errno {
	if e := m.ready(pid); e != api.OK {
		return e
	}
	if c.A == pid || !m.isIn(c.A, pid) {
		return api.ErrPid
	}
	if e := m.lead(c.S); e != api.OK {
		return e
	}
	if c.S == "/" || m.names[c.S] != nil {
		return api.ErrExists
	}
	if m.isShared(c.A) {
		return api.ErrShared
	}
	if m.used().Inodes == m.limits.Inodes {
		return api.ErrFull
	}
	return api.OK
}

// checkpointed holds what a Checkpoint answered against the model, which takes the image's bytes from the kernel.
func (m *model) checkpointed(t *testing.T, k *tinyos.Kernel, pid int, c api.Call, got answer) answer {
	t.Helper()
	want := fails(m.mayCheckpoint(pid, c))
	if want.err != api.OK {
		if got != want {
			t.Fatalf("process %d, call %s: %+v, want %+v", pid, short(c), got, want)
		}
		return got
	}
	f := m.freeze(c.A)
	if got == fails(api.ErrFull) && (m.used().Bytes+f.most() > m.limits.Bytes || f.most() > 65536) {
		return got
	}
	if got != is(len(f.procs)) {
		t.Fatalf("process %d, call %s: %+v, want %d", pid, short(c), got, len(f.procs))
	}
	b := bytesOf(t, k, c.S)
	if len(b) > f.most() {
		t.Fatalf("P17: an image has %d bytes, more than %d", len(b), f.most())
	}
	m.names[c.S] = &inode{bytes: b}
	m.images[string(b)] = f
	return got
}

func (m *model) restore(p *being, path string) answer {
	if e := m.findFile(path); e != api.OK {
		return fails(e)
	}
	f, ok := m.images[string(m.names[path].bytes)]
	if !ok {
		return fails(api.ErrImage)
	}
	for _, q := range f.procs {
		if m.at(q.PID) != nil {
			return fails(api.ErrBusy)
		}
	}
	for _, q := range f.procs {
		if q.PID > m.limits.Procs {
			return fails(api.ErrProcs)
		}
	}
	for _, q := range f.procs {
		for _, o := range q.fds {
			if o == nil || o.path == "" {
				continue
			}
			if e := m.findFile(o.path); e != api.OK {
				return fails(e)
			}
		}
	}
	u := m.used()
	pages, objects, files, size, _ := f.sum()
	if u.Frames+pages > m.limits.Frames {
		return fails(api.ErrMemory)
	}
	if u.Objects+objects > m.limits.Objects || u.Inodes+files > m.limits.Inodes || u.Bytes+size > m.limits.Bytes {
		return fails(api.ErrFull)
	}
	c := newCopier(func(o *thing) *inode { return m.names[o.path] })
	for _, q := range f.procs {
		n := c.being(q)
		if n.PID == f.root {
			n.Parent = p.PID
		}
		m.procs = append(m.procs, n)
	}
	slices.SortFunc(m.procs, func(p, q *being) int { return p.PID - q.PID })
	return is(f.root)
}

// findFile is what stands against there being a file at a path.
func (m *model) findFile(path string) api.Errno {
	if e := m.lead(path); e != api.OK {
		return e
	}
	switch n := m.names[path]; {
	case path == "/":
		return api.ErrDir
	case n == nil:
		return api.ErrMissing
	case n.dir:
		return api.ErrDir
	}
	return api.OK
}

// anyTreeCall is a Checkpoint or a Restore that often succeeds, and often just not, and who makes it.
func (m *model) anyTreeCall(r *rand.Rand, pid int) (int, api.Call) {
	c := api.Call{Kind: anyOf(r, api.Checkpoint, api.Restore), A: r.IntN(8), B: 1, S: anyOf(r, "/i", "/j", "/k", "/d/i", "/d/j"), L: []string{"y"}, D: []byte("z")}
	if c.Kind == api.Checkpoint && r.IntN(10) > 0 {
		pid, c.A = m.anyBelow(r, pid)
	}
	if list := m.imagePaths(); c.Kind == api.Restore && len(list) > 0 && r.IntN(10) > 0 {
		c.S = anyOf(r, list...)
	}
	if r.IntN(20) == 0 {
		c.A = anyOf(r, c.A, -1, 17, 1<<40)
		c.S = anyOf(r, "/", "/d", "/a", "/a/i", "/init", "/x/i", "i", "", "/i/")
	}
	return pid, c
}

// anyBelow is a process that is ready, and another one of its tree; if there is none, this process and itself.
func (m *model) anyBelow(r *rand.Rand, pid int) (int, int) {
	list := [][2]int{}
	for _, p := range m.procs {
		for _, q := range m.procs {
			if p != q && p.State == api.Ready && m.isIn(q.PID, p.PID) {
				list = append(list, [2]int{p.PID, q.PID})
			}
		}
	}
	if len(list) == 0 {
		return pid, pid
	}
	two := anyOf(r, list...)
	return two[0], two[1]
}

// imagePaths are the paths of files that are images.
func (m *model) imagePaths() []string {
	var list []string
	for path, n := range m.names {
		if _, ok := m.images[string(n.bytes)]; ok {
			list = append(list, path)
		}
	}
	slices.Sort(list)
	return list
}

// sweep kills the processes whose numbers an image has, and has them be waited for.
func (m *model) sweep(t *testing.T, r *rand.Rand, k *tinyos.Kernel) {
	t.Helper()
	list := m.imagePaths()
	if len(list) == 0 {
		return
	}
	for _, p := range m.images[string(m.names[anyOf(r, list...)].bytes)].procs {
		m.make(t, k, m.anyReady(r), kill(p.PID))
		if q := m.at(p.PID); q != nil {
			m.make(t, k, q.Parent, wait())
		}
	}
}
