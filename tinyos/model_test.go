package tinyos_test

import (
	"bytes"
	"math/rand/v2"
	"slices"
	"strings"
	"testing"

	"tinyos/api"
	"tinyos/tinyos"
)

// inode is a file, or a directory, of the model.
type inode struct {
	dir   bool
	bytes []byte
}

// thing is what a descriptor of the model is of.
type thing struct {
	kind   api.FdKind
	file   *inode
	path   string // of a file of a frozen tree
	offset int
	bytes  *[]byte // of a pipe, both ends have the same ones
	other  *thing  // the other end
}

// being is a process of the model: what is told of it, but for its descriptors.
type being struct {
	api.Proc
	fds [8]*thing
}

// model is a kernel by the document's words. It counts where the program keeps.
type model struct {
	limits         api.Limits
	names          map[string]*inode // by their paths, without the root
	procs          []*being          // by their numbers
	typed, written []byte
	images         map[string]frozen // by their bytes
	calls, ecalls  counts            // of those that were made by Do, and by an Ecall
}

// counts tells how often a call of a kind had an answer.
type counts map[api.Kind]map[api.Errno]int

func (c counts) add(kind api.Kind, err api.Errno) {
	if c[kind] == nil {
		c[kind] = map[api.Errno]int{}
	}
	c[kind][err]++
}

// check asks for each of these answers.
func (c counts) check(t *testing.T, how string, want map[api.Kind][]api.Errno) {
	t.Helper()
	for kind, errs := range want {
		for _, err := range errs {
			if c[kind][err] == 0 {
				t.Errorf("call %d by %s never answered %d", kind, how, err)
			}
		}
	}
}

// newModel has one process, as Boot made it.
func newModel(l api.Limits, files []api.File, p api.Proc) *model {
	m := &model{limits: l, names: map[string]*inode{}, images: map[string]frozen{}, calls: counts{}, ecalls: counts{}}
	for _, f := range files {
		m.names[f.Path] = &inode{f.Dir, slices.Clone(f.Bytes)}
	}
	console := &thing{kind: api.ConsoleFd}
	m.procs = []*being{{p, [8]*thing{console, console, console}}}
	return m
}

// has tells whether a process has a descriptor of this.
func (m *model) has(o *thing) bool {
	return slices.ContainsFunc(m.procs, func(p *being) bool { return slices.Contains(p.fds[:], o) })
}

func (m *model) used() api.Limits {
	u := api.Limits{Procs: len(m.procs)}
	inodes := map[*inode]bool{{dir: true}: true}
	for _, n := range m.names {
		inodes[n] = true
	}
	objects := map[*thing]bool{}
	for _, p := range m.procs {
		u.Frames += len(p.Pages)
		for _, o := range p.fds {
			if o != nil && o.kind != api.ConsoleFd {
				objects[o] = true
			}
			if o != nil && o.file != nil {
				inodes[o.file] = true
			}
		}
	}
	u.Objects = len(objects)
	for n := range inodes {
		u.Inodes++
		u.Bytes += len(n.bytes)
	}
	return u
}

// lead is P8's errors of a path.
func (m *model) lead(path string) api.Errno {
	if path == "/" {
		return api.OK
	}
	parts := strings.Split(path, "/")
	if len(path) > 60 || len(parts) < 2 || parts[0] != "" {
		return api.ErrPath
	}
	for _, name := range parts[1:] {
		if name == "" || name == "." || name == ".." || len(name) > 14 || strings.Contains(name, "\x00") {
			return api.ErrPath
		}
	}
	for i := 2; i < len(parts); i++ {
		n := m.names[strings.Join(parts[:i], "/")]
		if n == nil {
			return api.ErrMissing
		}
		if !n.dir {
			return api.ErrDir
		}
	}
	return api.OK
}

func (m *model) mkdir(path string) answer {
	if e := m.lead(path); e != api.OK {
		return fails(e)
	}
	if path == "/" || m.names[path] != nil {
		return fails(api.ErrExists)
	}
	if m.used().Inodes == m.limits.Inodes {
		return fails(api.ErrFull)
	}
	m.names[path] = &inode{dir: true}
	return done()
}

func (m *model) unlink(path string) answer {
	if e := m.lead(path); e != api.OK {
		return fails(e)
	}
	if path == "/" {
		return fails(api.ErrBusy)
	}
	if m.names[path] == nil {
		return fails(api.ErrMissing)
	}
	for other := range m.names {
		if strings.HasPrefix(other, path+"/") {
			return fails(api.ErrBusy)
		}
	}
	delete(m.names, path)
	return done()
}

// free are the descriptors that are free, the least first.
func (p *being) free() []int {
	var list []int
	for i, o := range p.fds {
		if o == nil {
			list = append(list, i)
		}
	}
	return list
}

func (m *model) open(p *being, path string, a int) answer {
	if e := m.lead(path); e != api.OK {
		return fails(e)
	}
	if a < 0 || a > 3 {
		return fails(api.ErrArgs)
	}
	n := m.names[path]
	if n == nil && path != "/" {
		if a == 0 || a == 2 {
			return fails(api.ErrMissing)
		}
		if m.used().Inodes == m.limits.Inodes {
			return fails(api.ErrFull)
		}
		n = &inode{}
	}
	if path == "/" || n.dir {
		return fails(api.ErrDir)
	}
	if len(p.free()) == 0 {
		return fails(api.ErrFds)
	}
	if m.used().Objects == m.limits.Objects {
		return fails(api.ErrFull)
	}
	if a >= 2 {
		n.bytes = nil
	}
	m.names[path] = n
	fd := p.free()[0]
	p.fds[fd] = &thing{kind: api.FileFd, file: n}
	return is(fd)
}

func (m *model) pipe(p *being) answer {
	free := p.free()
	if len(free) < 2 {
		return fails(api.ErrFds)
	}
	if m.used().Objects+2 > m.limits.Objects {
		return fails(api.ErrFull)
	}
	b := []byte(nil)
	r, w := &thing{kind: api.ReadFd, bytes: &b}, &thing{kind: api.WriteFd, bytes: &b}
	r.other, w.other = w, r
	p.fds[free[0]], p.fds[free[1]] = r, w
	return both(free[0], free[1])
}

func (p *being) at(fd int) *thing {
	if fd < 0 || fd > 7 {
		return nil
	}
	return p.fds[fd]
}

func (p *being) dup(fd int) answer {
	if p.at(fd) == nil {
		return fails(api.ErrFd)
	}
	free := p.free()
	if len(free) == 0 {
		return fails(api.ErrFds)
	}
	p.fds[free[0]] = p.fds[fd]
	return is(free[0])
}

func (p *being) shut(fd int) answer {
	if p.at(fd) == nil {
		return fails(api.ErrFd)
	}
	p.fds[fd] = nil
	return done()
}

func (p *being) seek(fd, offset int) answer {
	o := p.at(fd)
	if o == nil || o.kind != api.FileFd {
		return fails(api.ErrFd)
	}
	if offset < 0 || offset > 65536 {
		return fails(api.ErrArgs)
	}
	o.offset = offset
	return done()
}

func (m *model) read(p *being, fd, most int) answer {
	o := p.at(fd)
	if o == nil || o.kind == api.WriteFd {
		return fails(api.ErrFd)
	}
	if most < 0 || most > 4096 {
		return fails(api.ErrArgs)
	}
	if o.kind == api.FileFd {
		d := ""
		for len(d) < most && o.offset < len(o.file.bytes) {
			d += string(o.file.bytes[o.offset : o.offset+1])
			o.offset++
		}
		return gives(d)
	}
	from := &m.typed
	again := true
	if o.kind == api.ReadFd {
		from = o.bytes
		again = m.has(o.other)
	}
	if len(*from) == 0 && most != 0 && again {
		return fails(api.ErrAgain)
	}
	n := min(most, len(*from))
	d := string((*from)[:n])
	*from = slices.Clone((*from)[n:])
	return gives(d)
}

func (m *model) write(p *being, fd int, d []byte) answer {
	o := p.at(fd)
	if o == nil || o.kind == api.ReadFd {
		return fails(api.ErrFd)
	}
	if len(d) > 4096 {
		return fails(api.ErrArgs)
	}
	switch o.kind {
	case api.ConsoleFd:
		m.written = append(m.written, d...)
		return is(len(d))
	case api.FileFd:
		return m.writeFile(o, d)
	}
	if !m.has(o.other) {
		return fails(api.ErrPipe)
	}
	if len(*o.bytes) == 64 && len(d) > 0 {
		return fails(api.ErrAgain)
	}
	n := min(len(d), 64-len(*o.bytes))
	*o.bytes = append(*o.bytes, d[:n]...)
	return is(n)
}

func (m *model) writeFile(o *thing, d []byte) answer {
	if len(d) == 0 {
		return is(0)
	}
	b := slices.Clone(o.file.bytes)
	for len(b) < o.offset+len(d) {
		b = append(b, 0)
	}
	copy(b[o.offset:], d)
	if m.used().Bytes-len(o.file.bytes)+len(b) > m.limits.Bytes || len(b) > 65536 {
		return fails(api.ErrFull)
	}
	o.file.bytes = b
	o.offset += len(d)
	return is(len(d))
}

// at is the process with this number, or nil.
func (m *model) at(pid int) *being {
	for _, p := range m.procs {
		if p.PID == pid {
			return p
		}
	}
	return nil
}

func (m *model) fork(p *being) answer {
	if len(m.procs) == m.limits.Procs {
		return fails(api.ErrProcs)
	}
	if m.limits.Frames-m.used().Frames < len(p.Pages) {
		return fails(api.ErrMemory)
	}
	pid := 1
	for m.at(pid) != nil {
		pid++
	}
	child := *p
	child.PID, child.Parent, child.Pages = pid, p.PID, slices.Clone(p.Pages)
	m.procs = append(m.procs, &child)
	slices.SortFunc(m.procs, func(p, q *being) int { return p.PID - q.PID })
	return is(pid)
}

func (m *model) end(p *being, status int) {
	p.Proc = zombie(p.Proc, status)
	p.fds = [8]*thing{}
	for _, q := range m.procs {
		if q.Parent == p.PID {
			q.Parent = 1
		}
	}
}

func (m *model) exit(p *being, a int) answer {
	if p.PID == 1 {
		return fails(api.ErrPid)
	}
	m.end(p, (a%256+256)%256)
	return done()
}

func (m *model) kill(pid int) answer {
	p := m.at(pid)
	if p == nil || p.State == api.Zombie || pid == 1 {
		return fails(api.ErrPid)
	}
	m.end(p, 137)
	return done()
}

func (m *model) wait(p *being) answer {
	err := api.ErrChild
	for i, q := range m.procs {
		if q.Parent != p.PID {
			continue
		}
		if q.State == api.Zombie {
			m.procs = slices.Delete(m.procs, i, i+1)
			return both(q.PID, q.Status)
		}
		err = api.ErrAgain
	}
	return fails(err)
}

func (p *being) sleep(count int) answer {
	if count < 0 || count > 1<<20 {
		return fails(api.ErrArgs)
	}
	if count > 0 {
		p.State, p.Left = api.Sleeping, count
	}
	return done()
}

func (m *model) tick() {
	for _, p := range m.procs {
		if p.State != api.Sleeping {
			continue
		}
		p.Left--
		if p.Left == 0 {
			p.State = api.Ready
		}
	}
}

func (m *model) exec(p *being, path string, args []string) answer {
	if e := m.lead(path); e != api.OK {
		return fails(e)
	}
	n := m.names[path]
	if n == nil && path != "/" {
		return fails(api.ErrMissing)
	}
	if path == "/" || n.dir {
		return fails(api.ErrDir)
	}
	plan, err := tinyos.Load(n.bytes)
	if err != nil {
		return fails(api.Tell(err))
	}
	stack, sp, err := tinyos.Stack(args)
	if err != nil {
		return fails(api.Tell(err))
	}
	if m.used().Frames-len(p.Pages)+len(plan.Pages)+len(stack) > m.limits.Frames {
		return fails(api.ErrMemory)
	}
	p.PC, p.Regs, p.Pages = plan.Entry, [16]uint64{15: sp}, append(plan.Pages, stack...)
	return done()
}

func (m *model) brk(p *being, count int) answer {
	if count < 0 || count > 64 {
		return fails(api.ErrArgs)
	}
	below := len(p.Pages) - 2 // the last two are the stack
	at := p.Pages[below-1].Number + 1
	if m.used().Frames+count > m.limits.Frames || count > 0 && at+count-1 >= 254 {
		return fails(api.ErrMemory)
	}
	for i := range count {
		p.Pages = slices.Insert(p.Pages, below+i, api.Page{Number: at + i, Perm: 6})
	}
	return is(256 * at)
}

func (p *being) peek(addr, count int) answer {
	if count < 0 || count > 4096 {
		return fails(api.ErrArgs)
	}
	if !allows(p.Proc, uint64(addr), uint64(count), 4) {
		return fails(api.ErrMemory)
	}
	d := make([]byte, count)
	for i := range d {
		d[i] = *byteAt(&p.Proc, uint64(addr+i))
	}
	return gives(string(d))
}

func (p *being) poke(addr int, d []byte) answer {
	if len(d) > 4096 {
		return fails(api.ErrArgs)
	}
	if !allows(p.Proc, uint64(addr), uint64(len(d)), 2) {
		return fails(api.ErrMemory)
	}
	for i := range d {
		*byteAt(&p.Proc, uint64(addr+i)) = d[i]
	}
	return is(len(d))
}

// ready is P7's errors of a number of a process.
func (m *model) ready(pid int) api.Errno {
	switch p := m.at(pid); {
	case p == nil:
		return api.ErrPid
	case p.State != api.Ready:
		return api.ErrState
	}
	return api.OK
}

// step has a process do an instruction that the kernel has done.
func (m *model) step(t *testing.T, k *tinyos.Kernel, pid int) api.Errno {
	t.Helper()
	if e := m.ready(pid); e != api.OK {
		return e
	}
	p := m.at(pid)
	if i, _ := fetched(&p.Proc); i.Op == api.Ecall {
		m.ecall(t, k, p)
	} else if status := follow(&p.Proc); status != 0 {
		m.end(p, status)
	}
	return api.OK
}

// stepBoth has a process do an instruction, of the kernel and of the model.
func (m *model) stepBoth(t *testing.T, k *tinyos.Kernel, pid int) {
	t.Helper()
	err := k.Step(pid)
	checkError(t, pid, err)
	if want := m.step(t, k, pid); api.Tell(err) != want {
		t.Fatalf("P18: Step(%d): %v, want error %d", pid, err, want)
	}
}

func (m *model) do(pid int, c api.Call) answer {
	if e := m.ready(pid); e != api.OK {
		return fails(e)
	}
	p := m.at(pid)
	switch c.Kind {
	case api.Fork:
		return m.fork(p)
	case api.Exec:
		return m.exec(p, c.S, c.L)
	case api.Exit:
		return m.exit(p, c.A)
	case api.Wait:
		return m.wait(p)
	case api.Kill:
		return m.kill(c.A)
	case api.Sleep:
		return p.sleep(c.A)
	case api.Getpid:
		return is(pid)
	case api.Open:
		return m.open(p, c.S, c.A)
	case api.Close:
		return p.shut(c.A)
	case api.Read:
		return m.read(p, c.A, c.B)
	case api.Write:
		return m.write(p, c.A, c.D)
	case api.Seek:
		return p.seek(c.A, c.B)
	case api.Dup:
		return p.dup(c.A)
	case api.Pipe:
		return m.pipe(p)
	case api.Unlink:
		return m.unlink(c.S)
	case api.Mkdir:
		return m.mkdir(c.S)
	case api.Brk:
		return m.brk(p, c.A)
	case api.Peek:
		return p.peek(c.A, c.B)
	case api.Poke:
		return p.poke(c.A, c.D)
	case api.Restore:
		return m.restore(p, c.S)
	}
	return fails(api.ErrCall)
}

// whole is what a kernel tells.
func (m *model) whole() whole {
	w := whole{used: m.used()}
	for _, p := range m.procs {
		told := p.Proc
		told.Fds = nil
		for i, o := range p.fds {
			if o != nil {
				told.Fds = append(told.Fds, api.Fd{Number: i, Kind: o.kind, Offset: o.offset})
			}
		}
		w.procs = append(w.procs, told)
	}
	for path, n := range m.names {
		w.files = append(w.files, api.File{Path: path, Dir: n.dir, Bytes: n.bytes})
	}
	slices.SortFunc(w.files, func(f, g api.File) int { return strings.Compare(f.Path, g.Path) })
	return w
}

// anyOf is one of a list.
func anyOf[E any](r *rand.Rand, list ...E) E { return list[r.IntN(len(list))] }

// anyCallOf is a call that often succeeds, and often just not.
func anyCallOf(r *rand.Rand) api.Call {
	kinds := []api.Kind{api.Getpid, api.Open, api.Open, api.Open, api.Close, api.Read, api.Read, api.Read, api.Write, api.Write, api.Write, api.Seek, api.Close, api.Dup, api.Pipe, api.Pipe, api.Unlink, api.Mkdir}
	c := api.Call{Kind: anyOf(r, kinds...), A: r.IntN(8), B: r.IntN(12)}
	c.S = anyOf(r, "/a", "/b", "/d", "/d/a", "/d/b", "/d/d", "/d/d/a", "/a/a", "/", "/init")
	c.D = bytes.Repeat([]byte{byte('a' + r.IntN(26))}, r.IntN(12))
	switch {
	case c.Kind == api.Open:
		c.A = r.IntN(4)
	case c.Kind == api.Write && r.IntN(4) == 0:
		c.D = bytes.Repeat(c.D, anyOf(r, 1, 2, 5, 20))
	case c.Kind == api.Read && r.IntN(4) == 0:
		c.B = anyOf(r, 0, 63, 64, 65, 4096)
	case c.Kind == api.Seek && r.IntN(8) == 0:
		c.B = anyOf(r, 100, 65535, 65536)
	}
	if r.IntN(20) == 0 {
		c.A = anyOf(r, -1, 4, 8, 9, 1<<40)
		c.B = anyOf(r, -1, 4097, 65537, 1<<40)
		c.S = anyOf(r, "", "a", "/a/", "//a", "/d/..", "/.", "/x/y", "/\x00", "/fifteen-bytes-x", strings.Repeat("/aa", 20), strings.Repeat("/aa", 20)+"a")
		c.D = bytes.Repeat([]byte("x"), anyOf(r, 0, 63, 64, 65, 4096, 4097))
	}
	if r.IntN(100) == 0 {
		c.Kind = anyOf(r, -1, 0, api.Restore+1, 99)
	}
	return c
}

// anyProcessCall is a call of those that make, end, or change processes.
func anyProcessCall(r *rand.Rand) api.Call {
	kinds := []api.Kind{api.Fork, api.Fork, api.Fork, api.Fork, api.Exec, api.Exec, api.Exit, api.Wait, api.Wait, api.Kill, api.Sleep, api.Sleep, api.Brk, api.Peek, api.Poke, api.Poke}
	c := api.Call{Kind: anyOf(r, kinds...), A: r.IntN(8), B: r.IntN(12), S: "/x", L: []string{"y"}, D: bytes.Repeat([]byte{byte('A' + r.IntN(26))}, r.IntN(12))}
	switch c.Kind {
	case api.Exec:
		c.S = anyOf(r, "/init", "/init", "/init", "/prog", "/prog", "/caller", "/caller", "/caller", "/wrong", "/a", "/b", "/d", "/", "/a/b", "/d/b", "x")
		c.L = slices.Repeat([]string{anyOf(r, "", "a", "some text", strings.Repeat("x", 30))}, r.IntN(9))
		if r.IntN(8) == 0 {
			c.L = append(c.L, anyOf(r, "\x00", strings.Repeat("x", 31)))
		}
	case api.Exit:
		c.A = anyOf(r, 0, 1, 255, 256, 1000, -1, -300)
	case api.Kill:
		c.A = anyOf(r, 0, 1, 2, 2, 3, 3, 4, 5, 6, 7, 17, -1)
	case api.Sleep:
		c.A = anyOf(r, 0, 1, 1, 2, 3, 6)
		if r.IntN(20) == 0 {
			c.A = anyOf(r, 1<<20, 1<<20+1, -1)
		}
	case api.Brk:
		c.A = anyOf(r, 0, 1, 1, 2, 3, 64, 65, -1)
	case api.Peek, api.Poke:
		c.A = anyOf(r, 0, 0x100, 0x200, 0x400, 0x480, 0x500, 0x600, 0x700, 0x9ff, 0xa00, 0xfe00, 0xff00, 0x10000, -1) + r.IntN(16) - 8
		if r.IntN(8) == 0 {
			c.B = anyOf(r, 0, 256, 257, 512, 4096, 4097, -1)
			c.D = bytes.Repeat([]byte("z"), anyOf(r, 0, 256, 257, 512, 4096, 4097))
		}
	}
	return c
}

// anyReady is a process that is ready; 1, if there is none.
func (m *model) anyReady(r *rand.Rand) int {
	list := []int{}
	for _, p := range m.procs {
		if p.State == api.Ready {
			list = append(list, p.PID)
		}
	}
	if len(list) == 0 {
		return 1
	}
	return anyOf(r, list...)
}

// play makes one random thing happen, to the kernel and to the model.
func (m *model) play(t *testing.T, r *rand.Rand, k *tinyos.Kernel) {
	t.Helper()
	pid := m.anyReady(r)
	if r.IntN(20) == 0 {
		pid = anyOf(r, 0, -1, 1, 2, 3, 4, 5, 17)
	}
	c := anyCallOf(r)
	switch r.IntN(24) {
	case 0:
		text := strings.Repeat("t", r.IntN(9))
		typeIn(t, k, text)
		m.typed = append(m.typed, text...)
		return
	case 1:
		checkConsole(t, k, string(m.written))
		m.written = nil
		return
	case 2, 3, 4:
		k.Tick()
		m.tick()
		return
	case 5, 6:
		m.stepBoth(t, k, pid)
		return
	case 7, 8, 9, 10, 11, 12:
		c = anyProcessCall(r)
	case 13, 14, 15:
		pid, c = m.anyTreeCall(r, pid)
	case 16:
		m.sweep(t, r, k)
		return
	}
	if r.IntN(3) == 0 {
		m.makeByEcall(t, r, k, pid, c)
	} else {
		m.make(t, k, pid, c)
	}
}

// make makes a call, of the kernel and of the model.
func (m *model) make(t *testing.T, k *tinyos.Kernel, pid int, c api.Call) {
	t.Helper()
	if c.Kind == api.Checkpoint {
		m.calls.add(c.Kind, m.checkpointed(t, k, pid, c, ask(t, k, pid, c)).err)
		return
	}
	want := m.do(pid, c)
	m.calls.add(c.Kind, want.err)
	if got := ask(t, k, pid, c); got != want {
		t.Fatalf("process %d, call %s: %+.100v, want %+.100v", pid, short(c), got, want)
	}
}

// TestAnyScript holds scripts against the model, with limits that are reached.
func TestAnyScript(t *testing.T) {
	var reached [3]bool
	calls, ecalls := counts{}, counts{}
	for seed := range uint64(500) {
		r := rand.New(rand.NewPCG(7, seed))
		files := []api.File{dir("/d"), file("/a", "some text"), {Path: "/init", Bytes: counter(t)}, {Path: "/prog", Bytes: prog(t)}, {Path: "/wrong", Bytes: wrong()}, {Path: "/caller", Bytes: caller(t)}}
		if seed%2 == 0 {
			files[2].Bytes = caller(t)
		}
		size := 0
		for _, f := range files {
			size += len(f.Bytes)
		}
		l := api.Limits{Procs: 1 + r.IntN(7), Frames: 5 + r.IntN(30), Objects: r.IntN(12), Inodes: 7 + r.IntN(8), Bytes: size + r.IntN(120)}
		switch r.IntN(4) {
		case 0:
			l.Bytes += r.IntN(8000)
		case 1, 2:
			l.Bytes = 100000
		}
		k, err := tinyos.Boot(l, files)
		if err != nil {
			t.Fatalf("P6: Boot: %v", err)
		}
		m := newModel(l, files, k.Procs()[0])
		m.calls, m.ecalls = calls, ecalls
		for i := range 250 {
			m.play(t, r, k)
			got, want := tellAll(k), m.whole()
			if !got.same(want) {
				t.Fatalf("seed %d, %d: used %+v, want %+v; processes\n%s\nwant\n%s", seed, i, got.used, want.used, briefAll(got.procs), briefAll(want.procs))
			}
			for i, full := range []bool{got.used.Procs == l.Procs, got.used.Frames == l.Frames, got.used.Objects == l.Objects} {
				reached[i] = reached[i] || full
			}
		}
	}
	calls.check(t, "Do", map[api.Kind][]api.Errno{
		api.Checkpoint: {api.OK, api.ErrPid, api.ErrPath, api.ErrMissing, api.ErrDir, api.ErrExists, api.ErrShared, api.ErrFull},
		api.Restore:    {api.OK, api.ErrPath, api.ErrMissing, api.ErrDir, api.ErrImage, api.ErrBusy, api.ErrMemory, api.ErrFull},
	})
	checkEcalls(t, ecalls)
	if reached != [3]bool{true, true, true} {
		t.Errorf("limits were not reached: %v", reached)
	}
}

func briefAll(procs []api.Proc) string {
	var list []string
	for _, p := range procs {
		list = append(list, brief(p))
	}
	return strings.Join(list, "\n")
}
