package tinyos_test

import (
	"bytes"
	"fmt"
	"reflect"
	"slices"
	"testing"

	"tinyos/api"
	"tinyos/tinyos"
)

// seg is a segment with its bytes; size is how many it has in memory, if these are more.
type seg struct {
	perm, addr uint64
	data       []byte
	size       uint64
}

// program makes an executable of segments.
func program(entry uint64, segs ...seg) []byte {
	at := uint64(64 + 56*len(segs))
	parts := make([]part, len(segs))
	for i, s := range segs {
		for at%256 != s.addr%256 {
			at++
		}
		count := uint64(len(s.data))
		parts[i] = part{1, s.perm, at, s.addr, count, max(count, s.size)}
		at += count
	}
	b := executable(int(at), entry, parts...)
	for i, s := range segs {
		copy(b[parts[i].offset:], s.data)
	}
	return b
}

// instrs writes instructions one behind the other.
func instrs(t *testing.T, list ...api.Instr) []byte {
	t.Helper()
	var code []byte
	for _, i := range list {
		b, err := tinyos.Encode(i)
		if err != nil {
			t.Fatalf("P3: Encode(%+v): %v", i, err)
		}
		code = append(code, b[:]...)
	}
	return code
}

// loop is an executable of one page that goes on at one place.
func loop(t *testing.T) []byte {
	t.Helper()
	return program(0x100, seg{perm: 5, addr: 0x100, data: instrs(t, api.Instr{Op: api.Jal, A: 1})})
}

func file(path string, b string) api.File { return api.File{Path: path, Bytes: []byte(b)} }

func dir(path string) api.File { return api.File{Path: path, Dir: true} }

// room is more than enough of everything.
func room() api.Limits {
	return api.Limits{Procs: 16, Frames: 1000, Objects: 100, Inodes: 100, Bytes: 100000}
}

// boot boots a kernel whose /init has these bytes.
func boot(t *testing.T, init []byte, files ...api.File) *tinyos.Kernel {
	t.Helper()
	k, err := tinyos.Boot(room(), append([]api.File{{Path: "/init", Bytes: init}}, files...))
	if err != nil || k == nil {
		t.Fatalf("P6: Boot: %v", err)
	}
	return k
}

// whole is all that a kernel tells.
type whole struct {
	procs []api.Proc
	files []api.File
	used  api.Limits
}

// tellAll copies what a kernel told, so that it stays what it was even if the kernel keeps it.
func tellAll(k *tinyos.Kernel) whole {
	w := whole{slices.Clone(k.Procs()), slices.Clone(k.Files()), k.Used()}
	for i := range w.procs {
		w.procs[i].Pages = slices.Clone(w.procs[i].Pages)
		w.procs[i].Fds = slices.Clone(w.procs[i].Fds)
	}
	for i := range w.files {
		w.files[i].Bytes = slices.Clone(w.files[i].Bytes)
	}
	return w
}

func sameFiles(f, g []api.File) bool {
	return slices.EqualFunc(f, g, func(f, g api.File) bool {
		return f.Path == g.Path && f.Dir == g.Dir && bytes.Equal(f.Bytes, g.Bytes)
	})
}

func sameProcs(p, q []api.Proc) bool { return slices.EqualFunc(p, q, sameProc) }

// sameProc holds an empty list and nil for the same.
func sameProc(p, q api.Proc) bool {
	same := slices.Equal(p.Pages, q.Pages) && slices.Equal(p.Fds, q.Fds)
	p.Pages, p.Fds, q.Pages, q.Fds = nil, nil, nil, nil
	return same && reflect.DeepEqual(p, q)
}

func (w whole) same(v whole) bool {
	return sameProcs(w.procs, v.procs) && sameFiles(w.files, v.files) && w.used == v.used
}

// brief tells a process with its pages' numbers alone.
func brief(p api.Proc) string {
	var pages []int
	for _, g := range p.Pages {
		pages = append(pages, g.Number)
	}
	p.Pages = nil
	return fmt.Sprintf("%+v, pages %d", p, pages)
}

// scribble writes into all that a kernel tells, the spare room behind each list too.
func scribble(k *tinyos.Kernel) {
	files, procs := k.Files(), k.Procs()
	for i := range files {
		overwrite(files[i].Bytes, 0xee)
	}
	overwrite(files, api.File{Path: "/else"})
	for i := range procs {
		overwrite(procs[i].Pages, api.Page{Number: -1})
		overwrite(procs[i].Fds, api.Fd{Number: -1})
	}
	overwrite(procs, api.Proc{PID: -1})
}

func overwrite[E any](list []E, with E) {
	list = list[:cap(list)]
	for i := range list {
		list[i] = with
	}
}

func TestAnswersAreFresh(t *testing.T) {
	k := boot(t, loop(t), dir("/d"), file("/d/f", "some bytes"), file("/e", ""))
	playAll(t, "P12", k, turn{1, fork(), is(2)}, turn{2, fork(), is(3)}, turn{2, sleep(1), done()})
	want := tellAll(k)
	scribble(k)
	if got := tellAll(k); !got.same(want) {
		t.Errorf("P2: a kernel changed with what it told: %+v, want %+v", got.files, want.files)
	}
	if err := k.Step(1); err != nil {
		t.Errorf("P18: Step: %v", err)
	}
}

func TestListsOfAnAnswerShareNothing(t *testing.T) {
	k := boot(t, loop(t), file("/a", "aaaa"), file("/b", "bbbb"), file("/c", "cccc"))
	files := k.Files()
	for i := range files {
		spare := files[i].Bytes[len(files[i].Bytes):]
		overwrite(spare, 'z')
	}
	if !sameFiles(files, k.Files()) {
		t.Error("P2: the bytes of two files share memory")
	}
}
