package tinyos_test

import (
	"bytes"
	"math"
	"math/rand/v2"
	"slices"
	"strings"
	"testing"

	"tinyos/api"
	"tinyos/tinyos"
)

// tree is what files make, path by path, by the document's words.
type tree struct {
	limits api.Limits
	files  map[string]api.File
}

func (m tree) bytes() int {
	n := 0
	for _, f := range m.files {
		n += len(f.Bytes)
	}
	return n
}

// lead asks for the names that are not the last one; path is a path.
func (m tree) lead(path string) api.Errno {
	for i := 1; i < len(path); i++ {
		if path[i] != '/' {
			continue
		}
		f, ok := m.files[path[:i]]
		switch {
		case !ok:
			return api.ErrMissing
		case !f.Dir:
			return api.ErrDir
		}
	}
	return api.OK
}

func (m tree) add(f api.File) api.Errno {
	if n := m.lead(f.Path); n != api.OK {
		return n
	}
	old, there := m.files[f.Path]
	switch {
	case f.Dir && (there || f.Path == "/"):
		return api.ErrExists
	case !f.Dir && (old.Dir || f.Path == "/"):
		return api.ErrDir
	case !there && len(m.files)+2 > m.limits.Inodes: // it, and the root
		return api.ErrFull
	}
	b := []byte(nil)
	if !f.Dir {
		b = slices.Clone(f.Bytes)
		if len(old.Bytes) > len(b) {
			b = append(b, old.Bytes[len(b):]...)
		}
	}
	if m.bytes()-len(old.Bytes)+len(b) > m.limits.Bytes {
		return api.ErrFull
	}
	m.files[f.Path] = api.File{Path: f.Path, Dir: f.Dir, Bytes: b}
	return api.OK
}

// wantBoot is what Boot makes of files whose paths are paths, and its error.
func wantBoot(l api.Limits, files []api.File) (tree, api.Errno) {
	m := tree{l, map[string]api.File{}}
	if l.Inodes == 0 {
		return m, api.ErrFull
	}
	for _, f := range files {
		if n := m.add(f); n != api.OK {
			return m, n
		}
	}
	f, ok := m.files["/init"]
	if !ok {
		return m, api.ErrMissing
	}
	if f.Dir {
		return m, api.ErrDir
	}
	plan, err := tinyos.Load(f.Bytes)
	if err == nil && len(plan.Pages)+2 > l.Frames {
		return m, api.ErrMemory
	}
	return m, api.Tell(err)
}

func (m tree) sorted() []api.File {
	var paths []string
	for path := range m.files {
		paths = append(paths, path)
	}
	slices.Sort(paths)
	var files []api.File
	for _, path := range paths {
		files = append(files, m.files[path])
	}
	return files
}

func checkBootFails(t *testing.T, name string, l api.Limits, files []api.File, want api.Errno) {
	t.Helper()
	if k, err := tinyos.Boot(l, files); api.Tell(err) != want || k != nil {
		t.Errorf("P6: %s: %v, a kernel: %t, want error %d and none", name, err, k != nil, want)
	}
}

// checkBoot holds Boot against the model.
func checkBoot(t *testing.T, l api.Limits, files []api.File) {
	t.Helper()
	m, want := wantBoot(l, files)
	if want != api.OK {
		checkBootFails(t, "files", l, files, want)
		return
	}
	k, err := tinyos.Boot(l, files)
	if err != nil || k == nil {
		t.Fatalf("P6: Boot: %v, want a kernel", err)
	}
	if got := k.Files(); !sameFiles(got, m.sorted()) {
		t.Errorf("P8: files %+v, want %+v", got, m.sorted())
	}
	plan, _ := tinyos.Load(m.files["/init"].Bytes)
	stack, sp, _ := tinyos.Stack([]string{"init"})
	p := api.Proc{PID: 1, PC: plan.Entry, Pages: slices.Concat(plan.Pages, stack)}
	p.Regs[15] = sp
	for i := range 3 {
		p.Fds = append(p.Fds, api.Fd{Number: i, Kind: api.ConsoleFd})
	}
	if got := k.Procs(); len(got) != 1 || !sameProc(got[0], p) {
		t.Errorf("P6: %d processes: %s, want %s", len(got), brief(got[0]), brief(p))
	}
	used := api.Limits{Procs: 1, Frames: len(p.Pages), Inodes: len(m.files) + 1, Bytes: m.bytes()}
	if got := k.Used(); got != used {
		t.Errorf("P16: used %+v, want %+v", got, used)
	}
}

// withLimit is room for all, but for one limit.
func withLimit(i, n int) api.Limits {
	l := room()
	*[]*int{&l.Procs, &l.Frames, &l.Objects, &l.Inodes, &l.Bytes}[i] = n
	return l
}

func TestBootLimits(t *testing.T) {
	files := []api.File{{Path: "/init", Bytes: loop(t)}}
	size := len(files[0].Bytes)
	for i, ends := range [][2]int{{1, 16}, {1, 1000}, {0, 100000}, {0, 100000}, {0, 100000}} {
		for _, n := range []int{ends[0] - 1, ends[1] + 1, -ends[1], math.MinInt, math.MaxInt, math.MinInt32, 1 << 32, 1<<32 + 1} {
			checkBootFails(t, "a limit outside its ends", withLimit(i, n), files, api.ErrArgs)
			checkBootFails(t, "a limit ahead of a path", withLimit(i, n), []api.File{file("x", "")}, api.ErrArgs)
			l := withLimit(i, n)
			if i != 3 {
				l.Inodes = 0
			}
			checkBootFails(t, "a limit ahead of inodes", l, nil, api.ErrArgs)
		}
		for _, n := range []int{ends[0], ends[0] + 1, 2, 3, size - 1, size, size + 1, ends[1] - 1, ends[1]} {
			if n >= ends[0] && n <= ends[1] {
				checkBoot(t, withLimit(i, n), files)
			}
		}
	}
	checkBoot(t, api.Limits{Procs: 1, Frames: 3, Objects: 0, Inodes: 2, Bytes: size}, files)
}

func TestBootWithoutRoot(t *testing.T) {
	for _, files := range [][]api.File{nil, {dir("/")}, {file("x", "")}, {file("/init", "x")}} {
		checkBootFails(t, "no inode for the root", withLimit(3, 0), files, api.ErrFull)
	}
}

func TestBootFrames(t *testing.T) {
	for _, pages := range []int{1, 2, 100, 254} {
		init := program(0, seg{perm: 5, addr: 0, data: []byte{1}, size: uint64(256 * pages)})
		for _, frames := range []int{1, pages + 1, pages + 2, pages + 3, 1000} {
			want := api.OK
			if frames < pages+2 {
				want = api.ErrMemory
			}
			k, err := tinyos.Boot(withLimit(1, frames), []api.File{{Path: "/init", Bytes: init}})
			if api.Tell(err) != want || (k == nil) != (err != nil) {
				t.Errorf("P6: %d pages and a stack in %d frames: %v, want error %d", pages, frames, err, want)
			}
		}
	}
}

func TestBootInit(t *testing.T) {
	header, segment, entry := loop(t), loop(t), loop(t)
	header[0] = 0
	segment[64] = 2
	entry[24] = 2
	overlap := program(0x100, seg{perm: 5, addr: 0x100, data: []byte{1}}, seg{perm: 4, addr: 0x180, data: []byte{1}})
	for _, x := range []struct {
		name  string
		files []api.File
		want  api.Errno
	}{
		{"no files", nil, api.ErrMissing},
		{"other files", []api.File{dir("/d"), {Path: "/d/init", Bytes: loop(t)}, {Path: "/ini", Bytes: loop(t)}, {Path: "/init0", Bytes: loop(t)}}, api.ErrMissing},
		{"a directory", []api.File{dir("/init")}, api.ErrDir},
		{"a directory that has files", []api.File{dir("/init"), {Path: "/init/init", Bytes: loop(t)}}, api.ErrDir},
		{"no bytes", []api.File{file("/init", "")}, api.ErrHeader},
		{"some bytes", []api.File{file("/init", "x")}, api.ErrHeader},
		{"a header", []api.File{{Path: "/init", Bytes: header}}, api.ErrHeader},
		{"a segment", []api.File{{Path: "/init", Bytes: segment}}, api.ErrSegment},
		{"an overlap", []api.File{{Path: "/init", Bytes: overlap}}, api.ErrOverlap},
		{"an entry", []api.File{{Path: "/init", Bytes: entry}}, api.ErrEntry},
		{"made right by a later file", []api.File{file("/init", "x"), {Path: "/init", Bytes: loop(t)}}, api.OK},
		{"made wrong by a later file", []api.File{{Path: "/init", Bytes: loop(t)}, file("/init", "x")}, api.ErrHeader},
		{"a file's error ahead of it", []api.File{file("/init", "x"), file("/d/f", "")}, api.ErrMissing},
		{"a later file's error ahead of it", []api.File{file("/init", "x"), dir("/init")}, api.ErrExists},
	} {
		if _, got := wantBoot(room(), x.files); got != x.want {
			t.Fatalf("%s: the model tells %d, want %d", x.name, got, x.want)
		}
		checkBoot(t, room(), x.files)
		short := room()
		short.Frames = 1
		if x.want != api.OK {
			checkBootFails(t, x.name+", ahead of frames", short, x.files, x.want)
		} else {
			checkBootFails(t, x.name, short, x.files, api.ErrMemory)
		}
	}
}

func TestBootPaths(t *testing.T) {
	init := api.File{Path: "/init", Bytes: loop(t)}
	base := append([]api.File{init}, pathFiles()...)
	for _, x := range pathCases() {
		for _, f := range []api.File{{Path: x.path, Dir: true}, {Path: x.path}, {Path: x.path, Dir: true, Bytes: []byte("of no matter")}} {
			want := x.create
			if f.Dir {
				want = x.mkdir
			}
			files := append(slices.Clone(base), f)
			if want != api.OK {
				checkBootFails(t, "the path "+x.path, room(), files, want)
				continue
			}
			if _, got := wantBoot(room(), files); got != api.OK {
				t.Fatalf("%q: the model tells %d, want none", x.path, got)
			}
			checkBoot(t, room(), files)
		}
	}
}

func TestBootErrorsInOrder(t *testing.T) {
	init := api.File{Path: "/init", Bytes: loop(t)}
	full := room()
	full.Inodes = 3 // the root, /init and /d
	files := []api.File{init, dir("/d")}
	for _, x := range []struct {
		name string
		f    api.File
		want api.Errno
	}{
		{"no path", dir("/d/"), api.ErrPath}, {"no path, a file", file("/d/", ""), api.ErrPath},
		{"missing", dir("/x/y"), api.ErrMissing}, {"missing, a file", file("/x/y", ""), api.ErrMissing},
		{"no directory", dir("/init/y"), api.ErrDir}, {"no directory, a file", file("/init/y", ""), api.ErrDir},
		{"it exists", dir("/d"), api.ErrExists}, {"a directory", file("/d", ""), api.ErrDir},
		{"the root exists", dir("/"), api.ErrExists}, {"the root is a directory", file("/", ""), api.ErrDir},
		{"no inode", dir("/x"), api.ErrFull}, {"no inode for a file", file("/x", ""), api.ErrFull}, {"no inode deeper", dir("/d/x"), api.ErrFull},
		{"a file that is there needs none", file("/init", ""), api.OK},
	} {
		with := append(slices.Clone(files), x.f)
		if x.want == api.OK {
			checkBoot(t, full, with)
			continue
		}
		checkBootFails(t, x.name, full, with, x.want)
		checkBootFails(t, x.name+", ahead of another file's", full, append(with, file("", "")), x.want)
		noBytes := full
		noBytes.Bytes = len(init.Bytes)
		x.f.Bytes = []byte("too many")
		checkBootFails(t, x.name+", ahead of bytes", noBytes, append(slices.Clone(files), x.f), x.want)
	}
}

func TestBootBytes(t *testing.T) {
	init := api.File{Path: "/init", Bytes: loop(t)}
	size := len(init.Bytes)
	for _, x := range []struct {
		name  string
		files []api.File
		need  int
	}{
		{"a file", []api.File{file("/a", "abc")}, 3},
		{"files", []api.File{file("/a", "abc"), file("/b", "de"), file("/c", "")}, 5},
		{"written over, as long", []api.File{file("/a", "abc"), file("/a", "xyz")}, 3},
		{"written over, shorter", []api.File{file("/a", "abc"), file("/a", "x")}, 3},
		{"written over, longer", []api.File{file("/a", "abc"), file("/a", "vwxyz")}, 5},
		{"written over, with nothing", []api.File{file("/a", "abc"), file("/a", "")}, 3},
		{"written over three times", []api.File{file("/a", "abc"), file("/b", "12"), file("/a", "x"), file("/a", "rstuvw"), file("/a", "yz")}, 8},
		{"a directory has none", []api.File{{Path: "/a", Dir: true, Bytes: []byte("abc")}}, 0},
		{"more than are written at a time", []api.File{file("/a", strings.Repeat("x", 4097))}, 4097},
		{"more than the greatest offset", []api.File{file("/a", strings.Repeat("x", 65537))}, 65537},
		{"as many as there may be", []api.File{file("/a", strings.Repeat("x", 100000-size))}, 100000 - size},
	} {
		files := append([]api.File{init}, x.files...)
		for _, n := range []int{size + x.need - 1, size + x.need, size + x.need + 1, 100000} {
			if n <= 100000 {
				checkBoot(t, withLimit(4, n), files)
			}
		}
		if x.need > 0 {
			checkBootFails(t, x.name, withLimit(4, size+x.need-1), files, api.ErrFull)
		}
	}
	checkBootFails(t, "one byte too many", room(), []api.File{init, file("/a", strings.Repeat("x", 100001-size))}, api.ErrFull)
	checkBootFails(t, "far too many bytes", room(), []api.File{file("/a", strings.Repeat("x", 1<<20))}, api.ErrFull)
}

func TestFilesByBytes(t *testing.T) {
	names := []string{"/b", "/a", "/a!", "/a0", "/a-b", "/B", "/a/b", "/a/!", "/a/b/c", "/a/b-", "/\xff", "/\x01", "/ä", "/aa", "/init0", "/ini"}
	var files []api.File
	for _, path := range names {
		switch path {
		case "/a", "/a/b", "/\xff":
			files = append(files, dir(path))
		default:
			files = append(files, file(path, path))
		}
	}
	checkBoot(t, room(), append(files, api.File{Path: "/init", Bytes: loop(t)}))
	got := boot(t, loop(t), files...).Files()
	want := append(slices.Clone(names), "/init")
	slices.SortFunc(want, func(a, b string) int { return bytes.Compare([]byte(a), []byte(b)) })
	for i, path := range want {
		if i >= len(got) || got[i].Path != path {
			t.Fatalf("P8: files %+v, want %q", got, want)
		}
	}
}

// orders calls f with every order of the list.
func orders(list []api.File, f func([]api.File)) {
	var from func(int)
	from = func(i int) {
		if i == len(list) {
			f(list)
			return
		}
		for k := i; k < len(list); k++ {
			list[i], list[k] = list[k], list[i]
			from(i + 1)
			list[i], list[k] = list[k], list[i]
		}
	}
	from(0)
}

func TestBootInEveryOrder(t *testing.T) {
	init := api.File{Path: "/init", Bytes: loop(t)}
	list := []api.File{init, dir("/d"), dir("/d/e"), file("/d/e/f", "abc"), file("/d/e/f", "x"), file("/d/g", "12345")}
	small := room()
	small.Inodes, small.Bytes = 6, len(init.Bytes)+8
	for _, l := range []api.Limits{room(), small, withLimit(3, 5), withLimit(4, small.Bytes-1)} {
		orders(list, func(files []api.File) { checkBoot(t, l, files) })
	}
	clash := []api.File{init, dir("/d"), file("/d", "a file"), file("/d/f", ""), dir("/init")}
	orders(clash, func(files []api.File) { checkBoot(t, room(), files) })
}

func TestBootAnyFiles(t *testing.T) {
	r := rand.New(rand.NewPCG(3, 4))
	paths := []string{"/", "/a", "/b", "/a/a", "/a/b", "/b/a", "/a/a/a", "/a/a/b", "/b/a/a", "/init", "/init/a"}
	for range 5000 {
		var files []api.File
		for range r.IntN(12) {
			f := api.File{Path: paths[r.IntN(len(paths))], Dir: r.IntN(2) == 0}
			f.Bytes = bytes.Repeat([]byte{byte('a' + len(files))}, r.IntN(6))
			files = append(files, f)
		}
		if r.IntN(8) > 0 {
			files = slices.Insert(files, r.IntN(len(files)+1), api.File{Path: "/init", Bytes: loop(t)})
		}
		l := api.Limits{Procs: 1 + r.IntN(16), Frames: 2 + r.IntN(9), Inodes: r.IntN(9), Bytes: 180 + r.IntN(120)}
		checkBoot(t, l, files)
	}
}

func TestBootKeepsNothing(t *testing.T) {
	init := append(loop(t), "spare room"...)
	text := []byte("some text, spare room")
	list := []api.File{{Path: "/init", Bytes: init[:len(init)-10]}, dir("/d"), {Path: "/d/f", Bytes: text[:9]}, {Path: "/d/f", Bytes: text[:4]}, file("/spare", "room")}
	wantInit, wantText, wantList := slices.Clone(init), slices.Clone(text), slices.Clone(list)
	unchanged := func(when string) {
		t.Helper()
		if !bytes.Equal(init, wantInit) || !bytes.Equal(text, wantText) || !sameFiles(list, wantList) {
			t.Fatalf("P2: Boot wrote into what was handed in, %s", when)
		}
	}
	k, err := tinyos.Boot(room(), list[:4])
	if err != nil {
		t.Fatalf("P6: Boot: %v", err)
	}
	unchanged("without an error")
	for _, l := range []api.Limits{{}, withLimit(1, 2), withLimit(3, 2), withLimit(4, len(init)-2)} {
		if _, err := tinyos.Boot(l, list[:4]); err == nil {
			t.Errorf("P6: Boot with %+v: no error", l)
		}
		unchanged("with an error")
	}
	want := tellAll(k)
	clear(init)
	clear(text)
	for i := range list {
		list[i] = file("/else", "else")
	}
	if !tellAll(k).same(want) {
		t.Error("P2: a kernel changed with what Boot was given")
	}
	other := boot(t, loop(t))
	if len(other.Files()) != 1 || !tellAll(k).same(want) {
		t.Error("P2: two kernels share something")
	}
}
