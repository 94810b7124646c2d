package tinyos_test

import (
	"math"
	"slices"
	"strings"
	"testing"

	"tinyos/api"
	"tinyos/tinyos"
)

// pathCase is what Mkdir, Open (with 0, and with 1) and Unlink answer to a path.
type pathCase struct {
	path                        string
	mkdir, open, create, unlink api.Errno
}

func deepPath() string { return strings.Repeat("/a", 29) } // 58 bytes

// pathFiles are the files that pathCases tell of.
func pathFiles() []api.File {
	files := []api.File{dir("/d"), dir("/d/e"), file("/f", "text")}
	for i := 2; i <= len(deepPath()); i += 2 {
		files = append(files, dir(deepPath()[:i]))
	}
	return files
}

func pathCases() []pathCase {
	deep := deepPath()
	cases := []pathCase{
		{"/", 10, 11, 11, 22}, {"/d", 10, 11, 11, 22}, {"/a", 10, 11, 11, 22}, {deep[:56], 10, 11, 11, 22},
		{"/d/e", 10, 11, 11, 0}, {deep, 10, 11, 11, 0},
		{"/f", 10, 0, 0, 0}, {"/init", 10, 0, 0, 0},
	}
	for _, path := range []string{
		"/x", "/d/x", "/d/e/x", "/...", "/.x", "/x.", "/..x", "/d/...", "/D", "/d/d", "/ff", "/ ", "/\\", "/\xff\xfe\x01", "/\n", "/ä", "/ääääääa", "/äääääää",
		"/12345678901234", "/d/12345678901234", deep + "/x", deep[:56] + "/xyz",
	} {
		cases = append(cases, pathCase{path, 0, 9, 0, 9})
	}
	for _, path := range []string{
		"", "x", "d", "d/x", ".", "..", " /x", "\x00", "\x00/x", "//", "//x", "/x/", "/d/", "/f/", "/d//x", "/d/e/", "///", "//d",
		"/.", "/..", "/./x", "/../x", "/d/.", "/d/..", "/d/../x", "/d/./x", "/f/..", "/x/..", "/x/./y",
		"/\x00", "/x\x00", "/x\x00y", "/d\x00/x", "/d/x\x00", "/f\x00",
		"/123456789012345", "/d/123456789012345", "/123456789012345/x", "/x/123456789012345", "/äääääääa",
		"/" + strings.Repeat("x", 59), strings.Repeat("x", 1<<16), "/" + strings.Repeat("x", 1<<16), strings.Repeat("/", 60),
		deep + "/xy", deep + "/x/y", deep[:56] + "/wxyz", deep + "/a/a/a", "/f" + deep + "a", "/x/y/", "/f/x/",
	} {
		cases = append(cases, pathCase{path, 8, 8, 8, 8})
	}
	for _, path := range []string{"/x/y", "/d/x/y", "/d/e/x/y", "/x/y/z", "/D/x", "/ff/x", "/.../x", "/x/d"} {
		cases = append(cases, pathCase{path, 9, 9, 9, 9})
	}
	for _, path := range []string{"/f/x", "/init/x", "/f/x/y", "/f/f", "/init/init"} {
		cases = append(cases, pathCase{path, 11, 11, 11, 11})
	}
	return cases
}

func TestPaths(t *testing.T) {
	for _, x := range pathCases() {
		for _, y := range []struct {
			call api.Call
			want answer
		}{
			{mkdir(x.path), fails(x.mkdir)}, {open(x.path, 0), fails(x.open)}, {open(x.path, 1), fails(x.create)},
			{open(x.path, 2), fails(x.open)}, {open(x.path, 3), fails(x.create)}, {unlink(x.path), fails(x.unlink)},
		} {
			if y.call.Kind == api.Open && y.want == done() {
				y.want = is(3)
			}
			k := boot(t, loop(t), pathFiles()...)
			before := k.Files()
			play(t, "P8", k, line{y.call, y.want})
			if y.want.err == api.OK {
				checkChange(t, y.call, before, k.Files())
			}
		}
	}
}

// checkChange holds the files against what they were ahead of a call that has done its work.
func checkChange(t *testing.T, c api.Call, was, now []api.File) {
	t.Helper()
	at := slices.IndexFunc(was, func(f api.File) bool { return f.Path == c.S })
	switch {
	case c.Kind == api.Unlink:
		was = slices.Delete(was, at, at+1)
	case at < 0:
		was = append(was, api.File{Path: c.S, Dir: c.Kind == api.Mkdir})
		slices.SortFunc(was, func(f, g api.File) int { return strings.Compare(f.Path, g.Path) })
	case c.A&2 != 0:
		was[at].Bytes = nil
	}
	if !sameFiles(was, now) {
		t.Fatalf("P8: after call %s the files are %+v, want %+v", short(c), now, was)
	}
}

func TestOpenArgs(t *testing.T) {
	l := room()
	l.Objects, l.Inodes = 0, 4 // all are in use
	k := bootLimited(t, l, dir("/d"), file("/f", "text"))
	for range 5 {
		play(t, "P9", k, line{dup(0), is(len(k.Procs()[0].Fds))})
	}
	for _, a := range []int{-1, 4, 5, 7, 8, -2, -4, 256, 257, 1 << 32, 1<<32 + 1, math.MinInt, math.MaxInt} {
		play(t, "P9: ErrArgs ahead of others", k,
			line{open("/f", a), fails(api.ErrArgs)},
			line{open("/d", a), fails(api.ErrArgs)},
			line{open("/", a), fails(api.ErrArgs)},
			line{open("/x", a), fails(api.ErrArgs)},
			line{open("/f/x", a), fails(api.ErrDir)},
			line{open("/x/y", a), fails(api.ErrMissing)},
			line{open("f", a), fails(api.ErrPath)},
		)
	}
}

func TestOpenErrorsInOrder(t *testing.T) {
	full := room()
	full.Objects, full.Inodes = 0, 4
	k := bootLimited(t, full, dir("/d"), file("/f", "text"))
	play(t, "P9: inodes, objects", k,
		line{open("/x", 0), fails(api.ErrMissing)},
		line{open("/x", 2), fails(api.ErrMissing)},
		line{open("/x", 1), fails(api.ErrFull)},
		line{open("/x", 3), fails(api.ErrFull)},
		line{open("/d", 1), fails(api.ErrDir)},
		line{open("/f", 3), fails(api.ErrFull)},
	)
	for fd := 3; fd < 8; fd++ {
		play(t, "P10: the console is no object", k, line{dup(1), is(fd)})
	}
	play(t, "P9: descriptors ahead of objects, behind inodes", k,
		line{open("/x", 0), fails(api.ErrMissing)},
		line{open("/x", 1), fails(api.ErrFull)},
		line{open("/x", 3), fails(api.ErrFull)},
		line{open("/d", 0), fails(api.ErrDir)},
		line{open("/f", 0), fails(api.ErrFds)},
		line{open("/f", 1), fails(api.ErrFds)},
		line{open("/f", 2), fails(api.ErrFds)},
		line{unlink("/d"), done()},
		line{open("/x", 1), fails(api.ErrFds)},
		line{open("/x", 3), fails(api.ErrFds)},
		line{shut(0), done()},
		line{open("/x", 1), fails(api.ErrFull)},
		line{open("/f", 2), fails(api.ErrFull)},
	)
	if files := k.Files(); len(files) != 2 || string(files[0].Bytes) != "text" {
		t.Errorf("P1: Open with an error changed the files: %+v", files)
	}
}

func TestOpenMakesAndEmpties(t *testing.T) {
	k := bootLimited(t, room(), file("/f", "text"))
	play(t, "P9", k,
		line{open("/f", 0), is(3)},
		line{read(3, 2), gives("te")},
		line{open("/f", 1), is(4)},
		line{read(4, 9), gives("text")},
		line{open("/f", 2), is(5)},
	)
	checkUsed(t, k, 3, 1, 0)
	play(t, "P9", k,
		line{read(5, 9), gives("")},
		line{read(3, 9), gives("")},
		line{write(5, "new text"), is(8)},
		line{read(3, 9), gives("w text")},
		line{read(4, 9), gives("text")},
		line{open("/f", 3), is(6)},
		line{open("/g", 3), is(7)},
	)
	checkUsed(t, k, 5, 2, 0)
	want := consoles(api.Fd{Number: 3, Kind: api.FileFd, Offset: 8}, api.Fd{Number: 4, Kind: api.FileFd, Offset: 8}, api.Fd{Number: 5, Kind: api.FileFd, Offset: 8},
		api.Fd{Number: 6, Kind: api.FileFd}, api.Fd{Number: 7, Kind: api.FileFd})
	checkFds(t, k, want...)
	play(t, "P9", k, line{write(7, "g"), is(1)}, line{shut(7), done()}, line{open("/g", 1), is(7)}, line{read(7, 9), gives("g")})
}

func TestLeastDescriptor(t *testing.T) {
	k := boot(t, loop(t), file("/f", ""))
	play(t, "P9", k,
		line{open("/f", 0), is(3)}, line{open("/f", 0), is(4)}, line{pipe(), both(5, 6)}, line{dup(6), is(7)},
		line{open("/f", 0), fails(api.ErrFds)}, line{dup(0), fails(api.ErrFds)}, line{pipe(), fails(api.ErrFds)},
		line{shut(7), done()}, line{pipe(), fails(api.ErrFds)}, line{dup(0), is(7)},
		line{shut(4), done()}, line{shut(1), done()}, line{open("/f", 0), is(1)}, line{pipe(), fails(api.ErrFds)}, line{dup(1), is(4)},
		line{shut(0), done()}, line{shut(7), done()}, line{pipe(), both(0, 7)},
		line{shut(2), done()}, line{shut(0), done()}, line{pipe(), both(0, 2)},
	)
}

func TestDescriptorsThatAreNone(t *testing.T) {
	k := boot(t, loop(t), file("/f", "text"))
	play(t, "P9", k, line{open("/f", 0), is(3)}, line{open("/f", 0), is(4)}, line{shut(3), done()})
	for _, fd := range []int{-1, 3, 5, 7, 8, 9, 255, 256, 260, 1 << 32, 1<<32 + 4, -1 << 32, math.MinInt, math.MaxInt} {
		play(t, "P9", k,
			line{shut(fd), fails(api.ErrFd)}, line{dup(fd), fails(api.ErrFd)},
			line{read(fd, 1), fails(api.ErrFd)}, line{read(fd, 0), fails(api.ErrFd)}, line{read(fd, -1), fails(api.ErrFd)}, line{read(fd, 4097), fails(api.ErrFd)},
			line{write(fd, "x"), fails(api.ErrFd)}, line{write(fd, ""), fails(api.ErrFd)}, line{write(fd, strings.Repeat("x", 4097)), fails(api.ErrFd)},
			line{seek(fd, 0), fails(api.ErrFd)}, line{seek(fd, -1), fails(api.ErrFd)}, line{seek(fd, 65537), fails(api.ErrFd)},
		)
	}
	for range 4 {
		ask(t, k, 1, dup(0))
	}
	play(t, "P9: ErrFd ahead of ErrFds", k, line{dup(8), fails(api.ErrFd)}, line{dup(-1), fails(api.ErrFd)}, line{dup(4), fails(api.ErrFds)})
}

func TestReadArgs(t *testing.T) {
	text := strings.Repeat("0123456789abcdef", 512) // 8192 bytes
	k := boot(t, loop(t), file("/f", text))
	play(t, "P9", k, line{open("/f", 0), is(3)})
	for _, most := range []int{-1, 4097, 4098, 8192, 65536, 1 << 32, 1<<32 + 1, -1 << 32, math.MinInt, math.MaxInt} {
		play(t, "P9", k, line{read(3, most), fails(api.ErrArgs)}, line{read(0, most), fails(api.ErrArgs)})
	}
	play(t, "P9", k,
		line{read(3, 0), gives("")}, line{read(3, 1), gives("0")}, line{read(3, 4095), gives(text[1:4096])}, line{read(3, 4096), gives(text[4096:])},
		line{read(3, 4096), gives("")}, line{read(3, 0), gives("")},
		line{seek(3, 8190), done()}, line{read(3, 4096), gives("ef")}, line{read(3, 1), gives("")},
		line{seek(3, 8192), done()}, line{read(3, 1), gives("")}, line{seek(3, 8193), done()}, line{read(3, 4096), gives("")},
	)
	checkFds(t, k, consoles(api.Fd{Number: 3, Kind: api.FileFd, Offset: 8193})...)
}

func TestWriteArgs(t *testing.T) {
	most := strings.Repeat("0123456789abcdef", 256) // 4096 bytes
	k := boot(t, loop(t))
	play(t, "P9", k,
		line{open("/f", 1), is(3)},
		line{write(3, most+"x"), fails(api.ErrArgs)}, line{write(3, most+most), fails(api.ErrArgs)}, line{write(1, most+"x"), fails(api.ErrArgs)},
		line{write(3, most), is(4096)}, line{write(3, most[:4095]), is(4095)}, line{write(3, ""), is(0)}, line{write(3, "x"), is(1)},
		line{seek(3, 4094), done()}, line{read(3, 4), gives("ef01")},
	)
	checkUsed(t, k, 1, 1, 8192)
	play(t, "P9: ErrArgs ahead of ErrFull", k, line{seek(3, 65536), done()}, line{write(3, most+"x"), fails(api.ErrArgs)}, line{write(3, "x"), fails(api.ErrFull)})
	if got := k.Console(); len(got) != 0 {
		t.Errorf("P1: a write with an error reached the console: %q", got)
	}
}

func TestWriteInTheMiddle(t *testing.T) {
	k := bootLimited(t, room(), file("/f", "0123456789"))
	play(t, "P9", k,
		line{open("/f", 0), is(3)},
		line{write(3, "ab"), is(2)}, line{read(3, 2), gives("23")}, line{write(3, "c"), is(1)}, line{write(3, ""), is(0)},
		line{seek(3, 9), done()}, line{write(3, "xyz"), is(3)}, line{read(3, 9), gives("")},
		line{seek(3, 0), done()}, line{read(3, 99), gives("ab23c5678xyz")},
	)
	checkUsed(t, k, 1, 1, 12)
}

func TestWriteBehindTheEnd(t *testing.T) {
	k := bootLimited(t, room(), file("/f", "abc"))
	play(t, "P9", k,
		line{open("/f", 0), is(3)},
		line{seek(3, 6), done()}, line{write(3, ""), is(0)},
	)
	checkUsed(t, k, 1, 1, 3)
	play(t, "P9", k,
		line{write(3, "g"), is(1)}, line{seek(3, 0), done()}, line{read(3, 99), gives("abc\x00\x00\x00g")},
		line{open("/f", 2), is(4)}, line{write(3, "h"), is(1)}, line{read(4, 99), gives("\x00\x00\x00\x00\x00\x00\x00h")},
	)
	checkUsed(t, k, 2, 1, 8)
}

func TestSeek(t *testing.T) {
	k := boot(t, loop(t), file("/f", "text"))
	play(t, "P9", k, line{open("/f", 0), is(3)}, line{pipe(), both(4, 5)}, line{seek(3, 2), done()})
	for _, to := range []int{-1, 65537, 65538, 1 << 32, 1<<32 + 1, -1 << 32, math.MinInt, math.MaxInt} {
		play(t, "P9", k, line{seek(3, to), fails(api.ErrArgs)}, line{seek(0, to), fails(api.ErrFd)}, line{seek(4, to), fails(api.ErrFd)}, line{seek(5, to), fails(api.ErrFd)})
	}
	play(t, "P9", k, line{seek(0, 0), fails(api.ErrFd)}, line{seek(4, 0), fails(api.ErrFd)}, line{seek(5, 0), fails(api.ErrFd)}, line{read(3, 9), gives("xt")})
	for _, to := range []int{0, 1, 4, 5, 4096, 4097, 65535, 65536} {
		play(t, "P9", k, line{seek(3, to), done()})
		checkFds(t, k, consoles(api.Fd{Number: 3, Kind: api.FileFd, Offset: to}, api.Fd{Number: 4, Kind: api.ReadFd}, api.Fd{Number: 5, Kind: api.WriteFd})...)
	}
}

func TestLimitOfBytes(t *testing.T) {
	size := len(loop(t))
	k := bootLimited(t, withLimit(4, size+10), file("/f", "abc"), dir("/d"))
	play(t, "P9", k,
		line{open("/g", 1), is(3)},
		line{write(3, "12345678"), fails(api.ErrFull)}, line{write(3, "1234567"), is(7)}, line{write(3, "8"), fails(api.ErrFull)}, line{write(3, ""), is(0)},
		line{open("/f", 0), is(4)}, line{write(4, "xyz"), is(3)}, line{write(4, "!"), fails(api.ErrFull)},
		line{seek(4, 2), done()}, line{write(4, "z!"), fails(api.ErrFull)}, line{read(4, 9), gives("z")},
		line{mkdir("/d/e"), done()}, line{open("/h", 1), is(5)}, line{write(5, "h"), fails(api.ErrFull)},
		line{open("/f", 2), is(6)}, line{write(5, "hi!"), is(3)}, line{write(5, "h"), fails(api.ErrFull)},
		line{seek(4, 65536), done()}, line{write(4, ""), is(0)}, line{write(4, "x"), fails(api.ErrFull)},
		line{unlink("/g"), done()}, line{write(5, "h"), fails(api.ErrFull)}, line{shut(3), done()}, line{write(5, "7654321"), is(7)},
	)
	checkUsed(t, k, 3, 4, 10)
	play(t, "P9: what is between the end and the offset counts", k,
		line{open("/h", 2), is(3)}, line{seek(3, 9), done()}, line{write(3, "ab"), fails(api.ErrFull)}, line{write(3, "a"), is(1)},
		line{open("/h", 2), is(7)}, line{seek(3, 10), done()}, line{write(3, "a"), fails(api.ErrFull)},
	)
	checkUsed(t, k, 5, 4, 0)
}

func TestLimitOfAFile(t *testing.T) {
	k := bootLimited(t, room(), file("/most", strings.Repeat("x", 65530)))
	play(t, "P9", k,
		line{open("/most", 0), is(3)}, line{seek(3, 65530), done()},
		line{write(3, "1234567"), fails(api.ErrFull)}, line{write(3, "123456"), is(6)}, line{write(3, "7"), fails(api.ErrFull)}, line{write(3, ""), is(0)},
		line{seek(3, 65535), done()}, line{write(3, "ab"), fails(api.ErrFull)}, line{write(3, "a"), is(1)},
		line{seek(3, 65529), done()}, line{read(3, 9), gives("x12345a")},
		line{seek(3, 0), done()}, line{write(3, strings.Repeat("y", 4096)), is(4096)}, line{read(3, 1), gives("x")},
	)
	checkUsed(t, k, 1, 1, 65536)
	k = bootLimited(t, room())
	play(t, "P9", k,
		line{open("/f", 1), is(3)}, line{seek(3, 65536), done()}, line{write(3, "x"), fails(api.ErrFull)}, line{seek(3, 65535), done()}, line{write(3, "xy"), fails(api.ErrFull)},
		line{write(3, "x"), is(1)}, line{seek(3, 61440), done()}, line{read(3, 4096), gives(strings.Repeat("\x00", 4095) + "x")},
	)
	checkUsed(t, k, 1, 1, 65536)
}

// TestFileAboveItsLimit: Boot makes files that Write could not make.
func TestFileAboveItsLimit(t *testing.T) {
	k := bootLimited(t, room(), file("/f", strings.Repeat("x", 65536)+"tail"))
	play(t, "P9", k,
		line{open("/f", 0), is(3)}, line{write(3, "y"), fails(api.ErrFull)}, line{write(3, ""), is(0)},
		line{seek(3, 65536), done()}, line{read(3, 3), gives("tai")}, line{write(3, ""), is(0)}, line{write(3, "y"), fails(api.ErrFull)}, line{read(3, 9), gives("l")},
		line{open("/f", 2), is(4)}, line{write(4, "y"), is(1)}, line{read(3, 1), gives("")}, line{write(3, "y"), fails(api.ErrFull)},
	)
	checkUsed(t, k, 2, 1, 1)
}

func TestSharedAndSeparateOffsets(t *testing.T) {
	k := bootLimited(t, room(), file("/f", "0123456789"))
	play(t, "P9", k,
		line{open("/f", 0), is(3)}, line{dup(3), is(4)}, line{open("/f", 0), is(5)}, line{dup(4), is(6)},
		line{read(3, 2), gives("01")}, line{read(4, 2), gives("23")}, line{read(6, 1), gives("4")}, line{read(5, 1), gives("0")},
		line{seek(6, 8), done()}, line{shut(3), done()}, line{read(4, 1), gives("8")}, line{write(4, "!"), is(1)},
		line{seek(5, 9), done()}, line{read(5, 1), gives("!")}, line{shut(4), done()}, line{read(6, 1), gives("")},
	)
	checkUsed(t, k, 2, 1, 10)
	play(t, "P9", k, line{shut(6), done()}, line{shut(6), fails(api.ErrFd)}, line{read(5, 1), gives("")})
	checkUsed(t, k, 1, 1, 10)
}

func TestLimitOfObjects(t *testing.T) {
	for most := range 6 {
		k := bootLimited(t, withLimit(2, most), file("/f", "text"))
		for i := range most {
			play(t, "P9", k, line{open("/f", 0), is(3 + i)})
		}
		checkUsed(t, k, most, 1, 4)
		if most == 5 {
			play(t, "P9", k, line{open("/f", 0), fails(api.ErrFds)})
			continue
		}
		play(t, "P9", k,
			line{open("/f", 2), fails(api.ErrFull)}, line{open("/g", 1), fails(api.ErrFull)},
			line{dup(0), is(3 + most)}, line{shut(3 + most), done()},
		)
		checkUsed(t, k, most, 1, 4)
		if most == 0 {
			continue
		}
		play(t, "P9", k,
			line{dup(3), is(3 + most)}, line{shut(3), done()}, line{open("/f", 0), fails(api.ErrFull)},
			line{shut(3 + most), done()}, line{open("/g", 1), is(3)}, line{open("/f", 2), fails(api.ErrFull)},
		)
		checkUsed(t, k, most, 2, 4)
	}
}

func TestLimitOfInodes(t *testing.T) {
	k := bootLimited(t, withLimit(3, 5), dir("/d"), file("/f", "text"))
	play(t, "P8", k,
		line{mkdir("/d/e"), done()}, line{mkdir("/d/e/f"), fails(api.ErrFull)}, line{open("/g", 1), fails(api.ErrFull)},
		line{mkdir("/d"), fails(api.ErrExists)}, line{mkdir("/"), fails(api.ErrExists)}, line{mkdir("/f"), fails(api.ErrExists)},
		line{mkdir("/x/y"), fails(api.ErrMissing)}, line{mkdir("/f/y"), fails(api.ErrDir)}, line{mkdir("x"), fails(api.ErrPath)},
		line{open("/f", 1), is(3)}, line{unlink("/d/e"), done()}, line{open("/g", 1), is(4)}, line{mkdir("/d/e"), fails(api.ErrFull)},
		line{unlink("/f"), done()}, line{mkdir("/d/e"), fails(api.ErrFull)}, line{shut(3), done()}, line{mkdir("/d/e"), done()}, line{mkdir("/x"), fails(api.ErrFull)},
		line{shut(4), done()}, line{mkdir("/x"), fails(api.ErrFull)}, line{unlink("/g"), done()}, line{mkdir("/x"), done()}, line{mkdir("/y"), fails(api.ErrFull)},
	)
	checkUsed(t, k, 0, 3, 0)
}

func TestUnlink(t *testing.T) {
	k := bootLimited(t, room(), dir("/d"), dir("/d/e"), file("/d/e/f", "text"), file("/d/g", "g"))
	play(t, "P8", k,
		line{unlink("/"), fails(api.ErrBusy)}, line{unlink("/d"), fails(api.ErrBusy)}, line{unlink("/d/e"), fails(api.ErrBusy)},
		line{unlink("/d/e/f"), done()}, line{unlink("/d/e/f"), fails(api.ErrMissing)}, line{unlink("/d"), fails(api.ErrBusy)},
		line{unlink("/d/e"), done()}, line{unlink("/d/e/f"), fails(api.ErrMissing)}, line{unlink("/d"), fails(api.ErrBusy)},
		line{unlink("/d/g"), done()}, line{unlink("/d"), done()}, line{unlink("/d"), fails(api.ErrMissing)}, line{unlink("/d/g"), fails(api.ErrMissing)},
	)
	checkUsed(t, k, 0, 0, 0)
	play(t, "P8", k, line{unlink("/init"), done()}, line{unlink("/"), fails(api.ErrBusy)}, line{mkdir("/init"), done()}, line{unlink("/init"), done()})
	if files := k.Files(); len(files) != 0 {
		t.Errorf("P8: files %+v, want none", files)
	}
	if got, want := k.Used(), (api.Limits{Procs: 1, Frames: 3, Inodes: 1}); got != want {
		t.Errorf("P16: used %+v, want %+v", got, want)
	}
	if err := k.Step(1); err != nil {
		t.Errorf("P18: Step without /init: %v", err)
	}
}

func TestUnlinkedFileIsKept(t *testing.T) {
	k := bootLimited(t, room(), file("/f", "text"))
	play(t, "P8", k,
		line{open("/f", 0), is(3)}, line{open("/f", 0), is(4)}, line{dup(3), is(5)}, line{unlink("/f"), done()}, line{unlink("/f"), fails(api.ErrMissing)},
		line{open("/f", 0), fails(api.ErrMissing)},
	)
	checkUsed(t, k, 2, 1, 4)
	play(t, "P8: another file of that path", k,
		line{open("/f", 1), is(6)}, line{write(6, "other"), is(5)}, line{read(3, 9), gives("text")}, line{write(5, "!"), is(1)},
		line{read(4, 9), gives("text!")}, line{seek(6, 0), done()}, line{read(6, 9), gives("other")},
	)
	checkUsed(t, k, 3, 2, 10)
	play(t, "P8", k, line{shut(3), done()}, line{shut(4), done()})
	checkUsed(t, k, 2, 2, 10)
	play(t, "P8", k, line{seek(5, 1), done()}, line{read(5, 9), gives("ext!")}, line{shut(5), done()})
	checkUsed(t, k, 1, 1, 5)
	if files := k.Files(); len(files) != 2 || string(files[0].Bytes) != "other" {
		t.Errorf("P8: files %+v", files)
	}
	play(t, "P8", k, line{unlink("/f"), done()}, line{seek(6, 7), done()}, line{write(6, "x"), is(1)})
	checkUsed(t, k, 1, 1, 8)
	play(t, "P8", k, line{shut(6), done()})
	checkUsed(t, k, 0, 0, 0)
}

func TestAnswersOfReadsAreFresh(t *testing.T) {
	k := boot(t, loop(t), file("/f", "some text"))
	play(t, "P9", k, line{open("/f", 0), is(3)}, line{pipe(), both(4, 5)}, line{write(5, "piped"), is(5)})
	k.Type([]byte("typed"))
	var lists [][]byte
	for _, c := range []api.Call{read(3, 4), read(3, 4), read(4, 2), read(4, 2), read(0, 2), read(0, 2)} {
		r, err := k.Do(1, c)
		if err != nil {
			t.Fatalf("P9: call %s: %v", short(c), err)
		}
		lists = append(lists, r.D)
	}
	for i, want := range []string{"some", " tex", "pi", "pe", "ty", "pe"} {
		if string(lists[i]) != want {
			t.Errorf("P2: answer %d is %q, want %q", i, lists[i], want)
		}
		overwrite(lists[i], 0xee)
	}
	play(t, "P2", k, line{read(3, 9), gives("t")}, line{read(4, 9), gives("d")}, line{read(0, 9), gives("d")}, line{seek(3, 0), done()}, line{read(3, 9), gives("some text")})
}

// TestKernelsAreApart: what one kernel does is not seen in another.
func TestKernelsAreApart(t *testing.T) {
	files := []api.File{file("/f", "text")}
	kernels := []*tinyos.Kernel{boot(t, loop(t), files...), boot(t, loop(t), files...)}
	want := tellAll(kernels[1])
	kernels[0].Type([]byte("typed"))
	play(t, "P9", kernels[0], line{open("/f", 2), is(3)}, line{write(3, "else"), is(4)}, line{write(1, "out"), is(3)}, line{pipe(), both(4, 5)}, line{mkdir("/d"), done()})
	if !tellAll(kernels[1]).same(want) || len(kernels[1].Console()) != 0 {
		t.Error("two kernels share something")
	}
	play(t, "P10", kernels[1], line{read(0, 9), fails(api.ErrAgain)})
}
