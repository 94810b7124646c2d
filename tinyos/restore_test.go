package tinyos_test

import (
	"bytes"
	"slices"
	"strings"
	"testing"

	"tinyos/api"
	"tinyos/tinyos"
)

// TestOffsetsAreThereAgain: objects are shared by Dup and by Fork as they were, and no others are.
func TestOffsetsAreThereAgain(t *testing.T) {
	k := boot(t, loop(t), file("/f", "0123456789"))
	playAll(t, "P17", k,
		turn{1, fork(), is(2)}, turn{2, shut(0), done()}, turn{2, open("/f", 0), is(0)}, turn{2, dup(0), is(3)}, turn{2, open("/f", 0), is(4)}, turn{2, read(0, 2), gives("01")}, turn{2, read(4, 5), gives("01234")},
		turn{2, fork(), is(3)}, turn{3, shut(1), done()}, turn{3, open("/f", 0), is(1)}, turn{3, shut(3), done()}, turn{3, dup(4), is(3)}, turn{2, seek(4, 65536), done()},
	)
	again(t, k, 2, "/i")
	checkUsed(t, k, 3, 1, 10)
	playAll(t, "P17", k,
		turn{3, read(0, 2), gives("23")}, turn{2, read(3, 2), gives("45")}, turn{2, read(0, 2), gives("67")},
		turn{2, read(4, 1), gives("")}, turn{3, seek(3, 1), done()}, turn{2, read(4, 1), gives("1")}, turn{3, read(4, 1), gives("2")},
		turn{3, read(1, 1), gives("0")}, turn{3, shut(1), done()}, turn{3, write(3, "three"), is(5)},
		turn{3, shut(0), done()}, turn{2, shut(0), done()}, turn{2, shut(4), done()},
	)
	checkUsed(t, k, 2, 1, 10)
	playAll(t, "P17", k, turn{2, read(3, 9), gives("89")}, turn{2, shut(3), done()}, turn{3, shut(3), done()}, turn{3, seek(4, 0), done()}, turn{3, read(4, 20), gives("012three89")}, turn{3, shut(4), done()})
	checkUsed(t, k, 0, 1, 10)
}

// TestOffsetAboveMaxSeek: Boot makes files that can be read further than Seek goes.
func TestOffsetAboveMaxSeek(t *testing.T) {
	k := boot(t, loop(t), file("/f", strings.Repeat("x", 70000)+"tail"))
	playAll(t, "P17", k, turn{1, fork(), is(2)}, turn{2, open("/f", 0), is(3)}, turn{2, seek(3, 65536), done()}, turn{2, read(3, 4096), gives(strings.Repeat("x", 4096))}, turn{2, read(3, 370), gives(strings.Repeat("x", 368) + "ta")})
	again(t, k, 2, "/i")
	playAll(t, "P17", k, turn{2, read(3, 9), gives("il")})
	k = boot(t, loop(t), file("/g", strings.Repeat("y", 65536)+"tail"))
	playAll(t, "P17: of an unlinked file that is emptied", k, turn{1, fork(), is(2)}, turn{2, open("/g", 0), is(3)}, turn{2, seek(3, 65536), done()}, turn{2, read(3, 2), gives("ta")}, turn{2, open("/g", 2), is(4)}, turn{2, write(4, "few"), is(3)}, turn{1, unlink("/g"), done()})
	again(t, k, 2, "/i")
	playAll(t, "P17", k, turn{2, read(3, 9), gives("")}, turn{2, write(3, "x"), fails(api.ErrFull)}, turn{2, seek(3, 1), done()}, turn{2, read(3, 9), gives("ew")})
}

// TestFileOfThePathNow: an object is of the file that has its path when the tree is there again.
func TestFileOfThePathNow(t *testing.T) {
	k := boot(t, loop(t), dir("/d"), file("/d/f", "first"))
	playAll(t, "P17", k,
		turn{1, fork(), is(2)}, turn{2, open("/d/f", 0), is(3)}, turn{2, read(3, 2), gives("fi")}, turn{1, checkpoint(2, "/i"), is(1)}, turn{1, kill(2), done()}, turn{1, wait(), both(2, 137)},
		turn{1, unlink("/d/f"), done()}, turn{1, unlink("/d"), done()}, turn{1, mkdir("/d"), done()}, turn{1, open("/d/f", 1), is(3)}, turn{1, write(3, "second"), is(6)},
		turn{1, restore("/i"), is(2)}, turn{2, read(3, 9), gives("cond")}, turn{2, write(3, "!"), is(1)}, turn{1, read(3, 9), gives("!")},
		turn{1, kill(2), done()}, turn{1, wait(), both(2, 137)}, turn{1, open("/d/f", 2), is(4)}, turn{1, restore("/i"), is(2)}, turn{2, read(3, 9), gives("")}, turn{2, write(3, "x"), is(1)}, turn{1, read(4, 9), gives("\x00\x00x")},
	)
	playAll(t, "P17: unlinked later", k, turn{1, unlink("/d/f"), done()}, turn{2, seek(3, 0), done()}, turn{2, read(3, 9), gives("\x00\x00x")}, turn{1, checkpoint(2, "/j"), fails(api.ErrShared)}, turn{1, shut(3), done()}, turn{1, shut(4), done()}, turn{1, checkpoint(2, "/j"), is(1)})
}

func TestPipesAreThereAgain(t *testing.T) {
	k := boot(t, loop(t))
	full := strings.Repeat("0123456789abcdef", 4)
	playAll(t, "P17", k,
		turn{1, fork(), is(2)}, turn{2, pipe(), both(3, 4)}, turn{2, write(4, "xx"+full), is(64)}, turn{2, read(3, 2), gives("xx")}, turn{2, write(4, full[62:]), is(2)},
		turn{2, pipe(), both(5, 6)}, turn{2, write(6, "abc"), is(3)}, turn{2, fork(), is(3)}, turn{2, shut(6), done()}, turn{3, shut(5), done()}, turn{3, dup(6), is(5)}, turn{3, shut(0), done()}, turn{3, pipe(), both(0, 7)},
	)
	again(t, k, 2, "/i")
	checkUsed(t, k, 6, 0, 0)
	playAll(t, "P17", k,
		turn{3, write(4, "y"), fails(api.ErrAgain)}, turn{3, read(3, 60), gives(full[:60])}, turn{2, write(4, "yz"), is(2)}, turn{2, read(3, 9), gives(full[60:] + "yz")}, turn{2, read(3, 9), fails(api.ErrAgain)},
		turn{3, write(5, "d"), is(1)}, turn{3, write(6, "e"), is(1)}, turn{2, read(5, 9), gives("abcde")}, turn{2, read(5, 9), fails(api.ErrAgain)},
		turn{3, shut(5), done()}, turn{2, read(5, 9), fails(api.ErrAgain)}, turn{3, shut(6), done()}, turn{2, read(5, 9), gives("")},
		turn{3, read(0, 9), fails(api.ErrAgain)}, turn{3, write(7, "own"), is(3)}, turn{3, read(0, 9), gives("own")},
	)
}

// TestPipesWithOneEnd: an end that nobody had is not there again.
func TestPipesWithOneEnd(t *testing.T) {
	k := boot(t, loop(t))
	playAll(t, "P17", k,
		turn{1, fork(), is(2)}, turn{2, pipe(), both(3, 4)}, turn{2, write(4, "rest"), is(4)}, turn{2, shut(4), done()},
		turn{2, pipe(), both(4, 5)}, turn{2, write(5, "lost"), is(4)}, turn{2, shut(4), done()}, turn{2, fork(), is(3)},
	)
	again(t, k, 2, "/i")
	checkUsed(t, k, 2, 0, 0)
	playAll(t, "P17", k,
		turn{2, write(5, "x"), fails(api.ErrPipe)}, turn{3, write(5, ""), fails(api.ErrPipe)},
		turn{3, read(3, 2), gives("re")}, turn{2, read(3, 9), gives("st")}, turn{2, read(3, 9), gives("")}, turn{3, read(3, 9), gives("")},
	)
	again(t, k, 2, "/i")
}

func TestConsoleIsThereAgain(t *testing.T) {
	k := bootLimited(t, withLimit(2, 0))
	playAll(t, "P17", k, turn{1, fork(), is(2)}, turn{2, dup(1), is(3)}, turn{2, shut(1), done()}, turn{2, write(3, "before "), is(7)})
	typeIn(t, k, "typed")
	b := again(t, k, 2, "/i")
	playAll(t, "P17", k, turn{2, read(0, 2), gives("ty")}, turn{1, read(0, 2), gives("pe")}, turn{2, write(3, "after"), is(5)}, turn{2, write(1, "x"), fails(api.ErrFd)})
	checkConsole(t, k, "before after")
	other := bootLimited(t, withLimit(2, 0), api.File{Path: "/i", Bytes: b})
	playAll(t, "P17", other, turn{1, restore("/i"), is(2)}, turn{2, read(0, 9), fails(api.ErrAgain)}, turn{2, write(3, "other"), is(5)})
	checkConsole(t, other, "other")
	checkConsole(t, k, "")
}

// TestNamelessFilesAreThereAgain: a file that was unlinked, by one object or by several, in one process or in several.
func TestNamelessFilesAreThereAgain(t *testing.T) {
	k := boot(t, loop(t), file("/one", "first file"), file("/two", "second file"))
	playAll(t, "P17", k,
		turn{1, fork(), is(2)}, turn{2, open("/one", 0), is(3)}, turn{2, open("/one", 0), is(4)}, turn{2, dup(4), is(5)}, turn{2, open("/two", 0), is(6)}, turn{2, fork(), is(3)}, turn{3, shut(4), done()}, turn{3, open("/one", 0), is(4)},
		turn{2, seek(3, 6), done()}, turn{2, seek(4, 1), done()}, turn{3, seek(4, 65536), done()}, turn{1, unlink("/one"), done()}, turn{1, unlink("/two"), done()},
		turn{2, open("/one", 1), is(7)}, turn{2, write(7, "named"), is(5)},
	)
	again(t, k, 2, "/i")
	checkUsed(t, k, 5, 3, 10+11+5)
	playAll(t, "P17", k,
		turn{3, read(3, 9), gives("file")}, turn{2, read(5, 4), gives("irst")}, turn{3, read(5, 9), gives(" file")}, turn{3, read(4, 1), gives("")},
		turn{3, seek(4, 0), done()}, turn{3, write(4, "FIRST"), is(5)}, turn{2, seek(3, 0), done()}, turn{2, read(3, 9), gives("FIRST fil")}, turn{2, write(5, "s"), is(1)}, turn{2, read(3, 9), gives("es")},
		turn{2, read(6, 99), gives("second file")}, turn{3, read(6, 99), gives("")}, turn{2, seek(7, 0), done()}, turn{2, read(7, 9), gives("named")},
	)
	checkUsed(t, k, 5, 3, 11+11+5)
	playAll(t, "P17: they are gone with their objects", k, turn{2, shut(6), done()}, turn{3, shut(6), done()})
	checkUsed(t, k, 4, 2, 11+5)
	playAll(t, "P17", k, turn{1, kill(2), done()}, turn{3, shut(3), done()}, turn{3, shut(5), done()})
	checkUsed(t, k, 1, 2, 11+5)
	playAll(t, "P17", k, turn{3, exit(0), done()})
	checkUsed(t, k, 0, 1, 5)
}

// TestEmptyThings: files and pipes without a byte.
func TestEmptyThings(t *testing.T) {
	k := boot(t, loop(t), file("/f", ""))
	playAll(t, "P17", k, turn{1, fork(), is(2)}, turn{2, open("/f", 0), is(3)}, turn{2, pipe(), both(4, 5)}, turn{2, open("/g", 1), is(6)}, turn{1, unlink("/f"), done()})
	for fd := range 3 {
		playAll(t, "P9", k, turn{2, shut(fd), done()})
	}
	again(t, k, 2, "/i")
	playAll(t, "P17", k, turn{2, read(4, 1), fails(api.ErrAgain)}, turn{2, read(3, 1), gives("")}, turn{2, write(3, "x"), is(1)}, turn{2, write(5, "y"), is(1)}, turn{2, read(4, 9), gives("y")})
	for fd := 3; fd < 7; fd++ {
		playAll(t, "P9", k, turn{2, shut(fd), done()})
	}
	again(t, k, 2, "/i")
	if p := proc(t, k, 2); len(p.Fds) != 0 {
		t.Errorf("P17: %s", brief(p))
	}
}

func TestRestoreByAnother(t *testing.T) {
	k := boot(t, loop(t))
	playAll(t, "P17", k,
		turn{1, fork(), is(2)}, turn{2, fork(), is(3)}, turn{3, fork(), is(4)}, turn{1, fork(), is(5)}, turn{2, checkpoint(3, "/i"), is(2)},
		turn{1, kill(3), done()}, turn{1, kill(4), done()}, turn{2, wait(), both(3, 137)}, turn{5, restore("/i"), fails(api.ErrBusy)}, turn{1, wait(), both(4, 137)}, turn{5, restore("/i"), is(3)},
	)
	checkKin(t, "P17", k, kin{pid: 1}, kin{pid: 2, parent: 1}, kin{pid: 3, parent: 5}, kin{pid: 4, parent: 3}, kin{pid: 5, parent: 1})
	playAll(t, "P17", k, turn{2, checkpoint(3, "/j"), fails(api.ErrPid)}, turn{5, checkpoint(3, "/j"), is(2)}, turn{1, checkpoint(5, "/k"), is(3)}, turn{3, exit(7), done()}, turn{2, wait(), fails(api.ErrChild)}, turn{5, wait(), both(3, 7)})
	checkKin(t, "P17", k, kin{pid: 1}, kin{pid: 2, parent: 1}, kin{pid: 4, parent: 1}, kin{pid: 5, parent: 1})
	playAll(t, "P17: who calls may be what a child of the tree was forked from", k, turn{1, kill(4), done()}, turn{1, wait(), both(4, 137)}, turn{2, restore("/j"), is(3)}, turn{4, fork(), is(6)})
	checkKin(t, "P17", k, kin{pid: 1}, kin{pid: 2, parent: 1}, kin{pid: 3, parent: 2}, kin{pid: 4, parent: 3}, kin{pid: 5, parent: 1}, kin{pid: 6, parent: 4})
}

// TestRestoreInAnother: a kernel with other files and other processes.
func TestRestoreInAnother(t *testing.T) {
	k := family(t)
	playAll(t, "P17", k, turn{4, open("/text", 0), is(3)}, turn{4, read(3, 4), gives("some")}, turn{6, pipe(), both(3, 4)}, turn{6, write(4, "piped"), is(5)}, turn{6, open("/gone", 1), is(5)}, turn{6, write(5, "gone"), is(4)}, turn{6, unlink("/gone"), done()})
	playAll(t, "P17", k, turn{1, checkpoint(3, "/i"), is(8)})
	want := treeOf(k.Procs(), 3)
	other := boot(t, loop(t), file("/text", "other text"), api.File{Path: "/j", Bytes: bytesOf(t, k, "/i")})
	ticks(other, 1000)
	playAll(t, "P17", other, turn{1, restore("/j"), is(3)}, turn{4, read(3, 9), gives("r text")}, turn{6, read(3, 9), gives("piped")}, turn{6, seek(5, 0), done()}, turn{6, read(5, 9), gives("gone")}, turn{6, peek(0xa00, 3), gives("six")})
	for i := range want {
		want[i].Fds = other.Procs()[i+1].Fds // those of 4 were read
	}
	if got := other.Procs()[1:]; !sameProcs(got, want) {
		t.Errorf("P17: in another kernel\n%s\nwant\n%s", briefAll(got), briefAll(want))
	}
	other.Tick()
	if p := other.Procs()[1]; p.State != api.Ready {
		t.Errorf("P17: %s, want it awake", brief(p))
	}
	before := tellAll(k)
	playAll(t, "P17", other, turn{4, write(3, "x"), is(1)}, turn{6, write(5, "x"), is(1)}, turn{1, kill(3), done()}, turn{6, write(4, "x"), is(1)})
	if !tellAll(k).same(before) {
		t.Error("P17: two kernels share something")
	}
}

// TestRestorePaths: as Open's with 0, but for files that are no images.
func TestRestorePaths(t *testing.T) {
	k := boot(t, loop(t), pathFiles()...)
	for _, x := range pathCases() {
		want := x.open
		if want == api.OK {
			want = api.ErrImage
		}
		playAll(t, "P17", k, turn{1, restore(x.path), fails(want)})
	}
}

// laden is a kernel with a tree of processes 2 to 4, with 9 pages, 5 objects, and 2 unlinked files with 7 bytes; its image is /i.
func laden(t *testing.T) *tinyos.Kernel {
	t.Helper()
	k := boot(t, loop(t), dir("/d"), file("/a", "aaaa"), file("/d/b", "bbbb"))
	playAll(t, "P17", k,
		turn{1, fork(), is(2)}, turn{2, fork(), is(3)}, turn{2, fork(), is(4)},
		turn{3, open("/a", 0), is(3)}, turn{3, open("/x", 1), is(4)}, turn{3, write(4, "xxxxx"), is(5)}, turn{4, open("/y", 1), is(3)}, turn{4, write(3, "yy"), is(2)}, turn{4, pipe(), both(4, 5)}, turn{4, write(5, "piped"), is(5)}, turn{4, shut(5), done()}, turn{4, open("/d/b", 0), is(5)},
		turn{1, unlink("/x"), done()}, turn{1, unlink("/y"), done()}, turn{1, checkpoint(2, "/i"), is(3)},
	)
	return k
}

// TestRestoreLimits boots kernels that have just enough of everything, and of one thing too little.
func TestRestoreLimits(t *testing.T) {
	b := bytesOf(t, laden(t), "/i")
	files := []api.File{{Path: "/init", Bytes: loop(t)}, dir("/d"), file("/a", "aa"), file("/d/b", "b"), {Path: "/i", Bytes: b}}
	enough := api.Limits{Procs: 4, Frames: 3 + 9, Objects: 5, Inodes: 6 + 2, Bytes: len(loop(t)) + 3 + len(b) + 7}
	tryWith := func(l api.Limits, want answer) {
		t.Helper()
		k, err := tinyos.Boot(l, files)
		if err != nil {
			t.Fatalf("P6: Boot: %v", err)
		}
		playAll(t, "P17", k, turn{1, restore("/i"), want})
		if want.err == api.OK && k.Used() != l {
			t.Errorf("P16: used %+v, want %+v", k.Used(), l)
		}
	}
	tryWith(enough, is(2))
	errs := []api.Errno{api.ErrProcs, api.ErrMemory, api.ErrFull, api.ErrFull, api.ErrFull}
	for first := range errs { // where several limits are too low, the error of the first one
		l := enough
		for i := first; i < len(errs); i++ {
			*[]*int{&l.Procs, &l.Frames, &l.Objects, &l.Inodes, &l.Bytes}[i]--
		}
		tryWith(l, fails(errs[first]))
		l = enough
		*[]*int{&l.Procs, &l.Frames, &l.Objects, &l.Inodes, &l.Bytes}[first]--
		tryWith(l, fails(errs[first]))
	}
}

// TestRestoreWithoutUnlinkedFiles: such a tree needs no inode and no byte.
func TestRestoreWithoutUnlinkedFiles(t *testing.T) {
	k := boot(t, loop(t), file("/f", "text"))
	playAll(t, "P17", k, turn{1, fork(), is(2)}, turn{2, open("/f", 0), is(3)}, turn{2, dup(3), is(4)}, turn{1, checkpoint(2, "/i"), is(1)})
	b := bytesOf(t, k, "/i")
	l := api.Limits{Procs: 2, Frames: 6, Objects: 1, Inodes: 4, Bytes: len(loop(t)) + 4 + len(b)}
	k = bootLimited(t, l, file("/f", "text"), api.File{Path: "/i", Bytes: b})
	playAll(t, "P17", k, turn{1, restore("/i"), is(2)}, turn{2, read(4, 9), gives("text")}, turn{2, open("/g", 1), fails(api.ErrFull)}, turn{1, fork(), fails(api.ErrProcs)})
	if got := k.Used(); got != l {
		t.Errorf("P16: used %+v, want %+v", got, l)
	}
}

// TestRestoreAfterOthers: what the limits leave is what processes of now don't use.
func TestRestoreAfterOthers(t *testing.T) {
	b := bytesOf(t, laden(t), "/i")
	size := len(loop(t)) + len(b)
	l := api.Limits{Procs: 5, Frames: 15, Objects: 6, Inodes: 9, Bytes: size + 10}
	k := bootLimited(t, l, dir("/d"), file("/a", ""), file("/d/b", ""), api.File{Path: "/i", Bytes: b})
	playAll(t, "P17", k,
		turn{1, fork(), is(2)}, turn{1, fork(), is(3)}, turn{1, fork(), is(4)}, turn{1, fork(), is(5)}, turn{1, restore("/i"), fails(api.ErrBusy)},
		turn{2, exit(0), done()}, turn{1, wait(), both(2, 0)}, turn{1, restore("/i"), fails(api.ErrBusy)}, turn{3, exit(0), done()}, turn{1, wait(), both(3, 0)}, turn{5, restore("/i"), fails(api.ErrBusy)},
		turn{4, exit(0), done()}, turn{1, restore("/i"), fails(api.ErrBusy)}, turn{1, wait(), both(4, 0)},
		turn{1, brk(1), is(0x200)}, turn{1, restore("/i"), fails(api.ErrMemory)}, turn{1, exec("/init"), done()},
		turn{1, pipe(), both(3, 4)}, turn{5, restore("/i"), fails(api.ErrFull)}, turn{1, shut(3), done()}, turn{1, shut(4), done()},
		turn{1, open("/g", 1), is(3)}, turn{1, mkdir("/h"), done()}, turn{1, restore("/i"), fails(api.ErrFull)}, turn{1, unlink("/h"), done()},
		turn{1, write(3, "1234"), is(4)}, turn{1, restore("/i"), fails(api.ErrFull)}, turn{1, open("/g", 2), is(4)}, turn{1, shut(4), done()}, turn{1, write(3, ""), is(0)}, turn{1, seek(3, 0), done()}, turn{1, write(3, "123"), is(3)},
		turn{5, restore("/i"), is(2)},
	)
	if got := k.Used(); got != l {
		t.Errorf("P16: used %+v, want %+v", got, l)
	}
}

// TestRestoreLostPaths: a path of which the tree had an object leads to no file any more.
func TestRestoreLostPaths(t *testing.T) {
	b := bytesOf(t, laden(t), "/i")
	for _, x := range []struct {
		name  string
		files []api.File
		want  answer
	}{
		{"as they were", []api.File{file("/a", "x"), dir("/d"), file("/d/b", "y")}, is(2)},
		{"no file", []api.File{dir("/d"), file("/d/b", "y")}, fails(api.ErrMissing)},
		{"no other file", []api.File{file("/a", "x"), dir("/d")}, fails(api.ErrMissing)},
		{"no directory", []api.File{file("/a", "x")}, fails(api.ErrMissing)},
		{"nothing", nil, fails(api.ErrMissing)},
		{"a directory for a file", []api.File{dir("/a"), dir("/d"), file("/d/b", "y")}, fails(api.ErrDir)},
		{"a directory for the other file", []api.File{file("/a", "x"), dir("/d"), dir("/d/b")}, fails(api.ErrDir)},
		{"a file for a directory", []api.File{file("/a", "x"), file("/d", "y")}, fails(api.ErrDir)},
		{"the first is missing, the other a directory", []api.File{dir("/d"), dir("/d/b")}, fails(api.ErrMissing)},
		{"the first is a directory, the other missing", []api.File{dir("/a"), dir("/d")}, fails(api.ErrDir)},
		{"the first is a directory, the other's is none", []api.File{dir("/a"), file("/d", "")}, fails(api.ErrDir)},
		{"the first is missing, the other's is none", []api.File{file("/d", "")}, fails(api.ErrMissing)},
	} {
		files := append([]api.File{{Path: "/i", Bytes: b}}, x.files...)
		k := boot(t, loop(t), files...)
		playAll(t, "P17, "+x.name, k, turn{1, restore("/i"), x.want})
		l := withLimit(1, 3)
		l.Objects = 0
		k = bootLimited(t, l, files...)
		want := x.want
		if want.err == api.OK {
			want = fails(api.ErrMemory)
		}
		playAll(t, "P17, a path's errors ahead of ErrMemory, "+x.name, k, turn{1, restore("/i"), want})
	}
}

// TestFirstLostPath: by the processes' numbers, and then by their descriptors', not by what was opened first, or by the tree.
func TestFirstLostPath(t *testing.T) {
	for _, x := range []struct {
		turns []turn // that open /m, which is missing then, and /d, which is a directory then
		want  api.Errno
	}{
		{[]turn{{2, open("/m", 1), is(3)}, {2, open("/d", 1), is(4)}}, api.ErrMissing},
		{[]turn{{2, open("/d", 1), is(3)}, {2, open("/m", 1), is(4)}}, api.ErrDir},
		{[]turn{{2, open("/m", 1), is(3)}, {2, shut(0), done()}, {2, open("/d", 1), is(0)}}, api.ErrDir},
		{[]turn{{2, open("/d", 1), is(3)}, {2, shut(2), done()}, {2, open("/m", 1), is(2)}}, api.ErrMissing},
		{[]turn{{2, open("/m", 1), is(3)}, {2, open("/d", 1), is(4)}, {2, shut(0), done()}, {2, dup(4), is(0)}}, api.ErrDir},
		{[]turn{{2, open("/d", 1), is(3)}, {2, open("/m", 1), is(4)}, {2, shut(1), done()}, {2, dup(4), is(1)}, {2, shut(4), done()}}, api.ErrMissing},
		{[]turn{{2, fork(), is(3)}, {3, open("/m", 1), is(3)}, {2, open("/d", 1), is(3)}}, api.ErrDir},
		{[]turn{{2, fork(), is(3)}, {3, shut(0), done()}, {3, open("/d", 1), is(0)}, {2, open("/m", 1), is(3)}}, api.ErrMissing},
		{[]turn{{1, fork(), is(3)}, {1, kill(2), done()}, {1, wait(), both(2, 137)}, {3, fork(), is(2)}, {3, open("/m", 1), is(3)}, {2, open("/d", 1), is(3)}, {3, fork(), is(4)}, {4, open("/m", 1), is(4)}}, api.ErrDir},
	} {
		k := boot(t, loop(t), file("/ok", "ok"))
		playAll(t, "P17", k, turn{1, fork(), is(2)})
		playAll(t, "P17", k, x.turns...)
		root := 2
		if proc(t, k, 2).Parent == 3 {
			root = 3
		}
		playAll(t, "P17", k, turn{1, checkpoint(root, "/i"), is(len(k.Procs()) - 1)})
		endTree(t, k, root)
		playAll(t, "P17", k, turn{1, unlink("/m"), done()}, turn{1, unlink("/d"), done()}, turn{1, mkdir("/d"), done()}, turn{1, restore("/i"), fails(x.want)})
	}
}

// TestRestoreErrorsInOrder: each error is met alone behind those that were ahead of it.
func TestRestoreErrorsInOrder(t *testing.T) {
	b := bytesOf(t, laden(t), "/i")
	l := api.Limits{Procs: 3, Frames: 8, Objects: 4, Inodes: 20, Bytes: 100000}
	wrong := bytes.Clone(b)
	wrong[len(wrong)/2] ^= 4
	files := []api.File{{Path: "/i", Bytes: b}, {Path: "/w", Bytes: wrong}, dir("/d")}
	k := bootLimited(t, l, files...)
	playAll(t, "P17", k,
		turn{1, fork(), is(2)}, turn{1, restore("i"), fails(api.ErrPath)}, turn{1, restore("/x/i"), fails(api.ErrMissing)}, turn{1, restore("/i/i"), fails(api.ErrDir)}, turn{1, restore("/x"), fails(api.ErrMissing)},
		turn{1, restore("/d"), fails(api.ErrDir)}, turn{1, restore("/"), fails(api.ErrDir)}, turn{1, restore("/w"), fails(api.ErrImage)}, turn{1, restore("/i"), fails(api.ErrBusy)}, turn{2, restore("/i"), fails(api.ErrBusy)},
		turn{1, fork(), fails(api.ErrMemory)}, turn{2, exit(0), done()}, turn{1, restore("/i"), fails(api.ErrBusy)}, turn{1, wait(), both(2, 0)}, turn{1, restore("/i"), fails(api.ErrProcs)}, turn{1, restore("/w"), fails(api.ErrImage)},
	)
	l.Procs = 4
	k = bootLimited(t, l, files...)
	playAll(t, "P17", k,
		turn{1, restore("/i"), fails(api.ErrMissing)}, turn{1, mkdir("/a"), done()}, turn{1, restore("/i"), fails(api.ErrDir)}, turn{1, unlink("/a"), done()}, turn{1, open("/a", 1), is(3)}, turn{1, restore("/i"), fails(api.ErrMissing)},
		turn{1, mkdir("/d/b"), done()}, turn{1, restore("/i"), fails(api.ErrDir)}, turn{1, unlink("/d/b"), done()}, turn{1, open("/d/b", 1), is(4)}, turn{1, restore("/i"), fails(api.ErrMemory)},
	)
	l.Frames = 12
	k = bootLimited(t, l, append(files, file("/a", ""), file("/d/b", ""))...)
	playAll(t, "P17", k, turn{1, restore("/i"), fails(api.ErrFull)}, turn{1, brk(1), is(0x200)}, turn{1, restore("/i"), fails(api.ErrMemory)})
}

// TestRestoreOfAGap: what is above l.Procs is told only where no number is in use.
func TestRestoreOfAGap(t *testing.T) {
	k := boot(t, loop(t))
	playAll(t, "P17", k, turn{1, fork(), is(2)}, turn{1, fork(), is(3)}, turn{3, fork(), is(4)}, turn{1, checkpoint(3, "/i"), is(2)}, turn{1, checkpoint(4, "/j"), is(1)})
	i, j := bytesOf(t, k, "/i"), bytesOf(t, k, "/j")
	for most := 1; most <= 5; most++ {
		k := bootLimited(t, withLimit(0, most), api.File{Path: "/i", Bytes: i}, api.File{Path: "/j", Bytes: j})
		want := []answer{fails(api.ErrProcs), fails(api.ErrProcs)}
		if most >= 4 {
			want = []answer{is(3), fails(api.ErrBusy)}
		}
		playAll(t, "P17", k, turn{1, restore("/i"), want[0]}, turn{1, restore("/j"), want[1]})
		if most >= 4 {
			playAll(t, "P17", k, turn{1, fork(), is(2)}, turn{4, getpid(), is(4)})
		}
		if most == 3 {
			playAll(t, "P17", k, turn{1, fork(), is(2)}, turn{1, fork(), is(3)}, turn{1, restore("/i"), fails(api.ErrBusy)}, turn{1, restore("/j"), fails(api.ErrProcs)})
		}
	}
}

// TestRestoredIsItsOwn: nothing is shared with the image, nor with what was told of it.
func TestRestoredIsItsOwn(t *testing.T) {
	k := laden(t)
	image := bytesOf(t, k, "/i")
	want := slices.Clone(image)
	overwrite(image, 0xee)
	scribble(k)
	endTree(t, k, 2)
	playAll(t, "P17", k, turn{1, restore("/i"), is(2)}, turn{3, write(4, "XX"), is(2)}, turn{3, seek(4, 0), done()}, turn{4, read(4, 1), gives("p")}, turn{4, write(3, "YY"), is(2)}, turn{2, poke(0xff00, "zz"), is(2)})
	if got := bytesOf(t, k, "/i"); !bytes.Equal(got, want) {
		t.Fatal("P17: an image changed with the tree that it was made into")
	}
	scribble(k)
	endTree(t, k, 2)
	playAll(t, "P17", k, turn{1, restore("/i"), is(2)}, turn{1, open("/i", 0), is(3)}, turn{1, write(3, strings.Repeat("#", len(want))), is(len(want))}, turn{1, unlink("/i"), done()}, turn{3, seek(4, 0), done()}, turn{3, read(4, 9), gives("xxxxx")}, turn{4, seek(3, 0), done()}, turn{4, read(3, 9), gives("yy")}, turn{4, read(4, 9), gives("piped")}, turn{2, peek(0xff00, 3), gives("\x00\x00\x00")})
	other := boot(t, loop(t), file("/a", ""), dir("/d"), file("/d/b", ""), api.File{Path: "/i", Bytes: want})
	for range 3 {
		playAll(t, "P17: again and again", other, turn{1, restore("/i"), is(2)}, turn{3, write(4, "XX"), is(2)}, turn{3, seek(4, 0), done()}, turn{3, read(4, 9), gives("xxxxxXX")}, turn{2, peek(0xff00, 2), gives("\x00\x00")}, turn{2, poke(0xff00, "zz"), is(2)})
		endTree(t, other, 2)
	}
}

// TestRestoreIgnoresTheRest: a call has what P7's table says, and no more.
func TestRestoreIgnoresTheRest(t *testing.T) {
	k := boot(t, loop(t))
	rest := func(c api.Call) api.Call {
		c.B, c.L, c.D = -7, []string{"x"}, []byte("y")
		return c
	}
	again := rest(restore("/i"))
	again.A = -1
	playAll(t, "P17", k, turn{1, fork(), is(2)}, turn{1, rest(checkpoint(2, "/i")), is(1)}, turn{1, kill(2), done()}, turn{1, wait(), both(2, 137)}, turn{1, again, is(2)})
}
