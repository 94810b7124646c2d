package tinyos_test

import (
	"bytes"
	"math"
	"slices"
	"strconv"
	"strings"
	"testing"

	"tinyos/api"
	"tinyos/tinyos"
)

func checkpoint(pid int, path string) api.Call {
	return api.Call{Kind: api.Checkpoint, A: pid, S: path}
}

func restore(path string) api.Call { return api.Call{Kind: api.Restore, S: path} }

// bytesOf are those of the file with this path.
func bytesOf(t *testing.T, k *tinyos.Kernel, path string) []byte {
	t.Helper()
	for _, f := range k.Files() {
		if f.Path == path && !f.Dir {
			return f.Bytes
		}
	}
	t.Fatalf("P8: there is no file %s", path)
	return nil
}

// treeOf are the processes of a tree, by their numbers.
func treeOf(procs []api.Proc, root int) []api.Proc {
	in := map[int]bool{root: true}
	for range procs { // a child may have a lower number than its parent
		for _, p := range procs {
			in[p.PID] = in[p.PID] || in[p.Parent]
		}
	}
	return slices.DeleteFunc(slices.Clone(procs), func(p api.Proc) bool { return !in[p.PID] })
}

// endTree has a tree be there no more: process 1 waits for all of it.
func endTree(t *testing.T, k *tinyos.Kernel, root int) {
	t.Helper()
	tree := treeOf(k.Procs(), root)
	for _, p := range tree {
		if p.State != api.Zombie {
			playAll(t, "P12", k, turn{1, kill(p.PID), done()})
		}
	}
	if p := proc(t, k, root); p.Parent != 1 { // its parent must wait, as it was a zombie by itself
		ask(t, k, p.Parent, wait())
		tree = slices.DeleteFunc(tree, func(p api.Proc) bool { return p.PID == root })
	}
	for range tree {
		if got := ask(t, k, 1, wait()); got.err != api.OK {
			t.Fatalf("P12: Wait: %+v", got)
		}
	}
	for _, p := range tree {
		playAll(t, "P12", k, turn{p.PID, getpid(), fails(api.ErrPid)})
	}
}

// again makes an image of a process's tree, ends the tree, and has it be there again. It asks for all of it being as it was, and answers the image.
func again(t *testing.T, k *tinyos.Kernel, root int, path string) []byte {
	t.Helper()
	files := k.Files()
	before := tellAll(k)
	count := len(treeOf(before.procs, root))
	playAll(t, "P17", k, turn{1, checkpoint(root, path), is(count)})
	b := bytesOf(t, k, path)
	before.used.Inodes++
	before.used.Bytes += len(b)
	before.files = append(before.files, api.File{Path: path, Bytes: b})
	slices.SortFunc(before.files, func(f, g api.File) int { return strings.Compare(f.Path, g.Path) })
	if got := tellAll(k); !got.same(before) {
		t.Fatalf("P17: a Checkpoint made more than a file: used %+v, want %+v", got.used, before.used)
	}
	endTree(t, k, root)
	playAll(t, "P17", k, turn{1, restore(path), is(root)})
	for i := range before.procs {
		if before.procs[i].PID == root {
			before.procs[i].Parent = 1
		}
	}
	if got := tellAll(k); !got.same(before) {
		t.Fatalf("P17: not all is as it was: used %+v, want %+v; processes\n%s\nwant\n%s", got.used, before.used, briefAll(got.procs), briefAll(before.procs))
	}
	playAll(t, "P17", k, turn{1, checkpoint(root, path+".again"), is(count)})
	if !bytes.Equal(bytesOf(t, k, path+".again"), b) {
		t.Fatal("P17: the image of a tree that is there again is another one")
	}
	playAll(t, "P8", k, turn{1, unlink(path + ".again"), done()}, turn{1, unlink(path), done()})
	if got := k.Files(); !sameFiles(got, files) {
		t.Fatalf("P17: files %+v, want %+v", got, files)
	}
	return b
}

func TestTreeOfOne(t *testing.T) {
	k := boot(t, counter(t), file("/text", "some text"))
	playAll(t, "P17", k, turn{1, fork(), is(2)}, turn{2, brk(2), is(0x200)}, turn{2, poke(0x2fe, "abcd"), is(4)})
	steps(t, k, 2, 7)
	again(t, k, 2, "/i")
	steps(t, k, 2, 2)
	if p := proc(t, k, 2); p.Regs[2] != 3 || p.PC != 0x100 {
		t.Errorf("P18: %s", brief(p))
	}
	playAll(t, "P17", k, turn{2, getpid(), is(2)}, turn{2, peek(0x2fe, 4), gives("abcd")}, turn{2, brk(1), is(0x400)}, turn{2, fork(), is(3)}, turn{1, wait(), fails(api.ErrAgain)}, turn{2, exit(5), done()}, turn{1, wait(), both(2, 5)})
}

// family is a kernel with a tree of all states, whose root has the number 3, and children of children.
func family(t *testing.T) *tinyos.Kernel {
	t.Helper()
	k := boot(t, counter(t), dir("/d"), file("/text", "some text"), api.File{Path: "/prog", Bytes: prog(t)})
	playAll(t, "P12, P13", k,
		turn{1, fork(), is(2)}, turn{1, fork(), is(3)}, turn{3, fork(), is(4)}, turn{4, fork(), is(5)}, turn{4, fork(), is(6)}, turn{3, fork(), is(7)}, turn{5, fork(), is(8)}, turn{3, fork(), is(9)},
		turn{2, exit(1), done()}, turn{1, wait(), both(2, 1)}, turn{5, fork(), is(2)},
		turn{6, exec("/prog", "one", "two"), done()}, turn{6, brk(3), is(0xa00)}, turn{6, poke(0xa00, "six"), is(3)},
		turn{7, sleep(7), done()}, turn{8, sleep(1 << 20), done()}, turn{2, sleep(2), done()},
	)
	steps(t, k, 3, 5)
	steps(t, k, 9, 8)
	steps(t, k, 4, 1)
	k.Tick()
	playAll(t, "P12", k, turn{9, exit(260), done()}, turn{1, fork(), is(10)})
	return k
}

func TestTreeOfMany(t *testing.T) {
	k := family(t)
	want := []kin{
		{pid: 1}, {2, 5, api.Sleeping, 0, 1}, {pid: 3, parent: 1}, {pid: 4, parent: 3}, {pid: 5, parent: 4}, {pid: 6, parent: 4},
		{7, 3, api.Sleeping, 0, 6}, {8, 5, api.Sleeping, 0, 1<<20 - 1}, {9, 3, api.Zombie, 4, 0}, {pid: 10, parent: 1},
	}
	checkKin(t, "P12", k, want...)
	again(t, k, 3, "/d/image")
	checkKin(t, "P17", k, want...)
	k.Tick()
	want[1].state, want[1].left = api.Ready, 0
	want[6].left, want[7].left = 5, 1<<20-2
	checkKin(t, "P17: who sleeps wakes in time", k, want...)
	ticks(k, 5)
	playAll(t, "P17", k,
		turn{7, getpid(), is(7)}, turn{8, getpid(), fails(api.ErrState)}, turn{9, getpid(), fails(api.ErrState)}, turn{3, wait(), both(9, 4)}, turn{3, wait(), fails(api.ErrAgain)},
		turn{6, peek(0xa00, 4), gives("six\x00")}, turn{6, peek(0xfff8, 8), gives("one\x00two\x00")}, turn{2, exit(3), done()}, turn{5, wait(), both(2, 3)}, turn{5, fork(), is(2)},
		turn{4, kill(5), done()}, turn{4, wait(), both(5, 137)},
	)
	checkKin(t, "P17", k, kin{pid: 1}, kin{pid: 2, parent: 1}, kin{pid: 3, parent: 1}, kin{pid: 4, parent: 3}, kin{pid: 6, parent: 4}, kin{pid: 7, parent: 3}, kin{8, 1, api.Sleeping, 0, 1<<20 - 7}, kin{pid: 10, parent: 1})
}

// TestEachTreeOfAFamily: every process but the first is the root of a tree.
func TestEachTreeOfAFamily(t *testing.T) {
	for root, count := range map[int]int{2: 1, 3: 8, 4: 5, 5: 3, 6: 1, 7: 1, 8: 1, 9: 1, 10: 1} {
		k := family(t)
		if got := len(treeOf(k.Procs(), root)); got != count {
			t.Fatalf("process %d has a tree of %d, want %d", root, got, count)
		}
		again(t, k, root, "/i")
	}
}

func TestTreeOfAZombie(t *testing.T) {
	k := boot(t, counter(t))
	playAll(t, "P12", k, turn{1, fork(), is(2)}, turn{2, fork(), is(3)})
	steps(t, k, 3, 4)
	playAll(t, "P12", k, turn{3, exit(-1), done()})
	want := proc(t, k, 3)
	playAll(t, "P17", k, turn{1, checkpoint(3, "/i"), is(1)}, turn{2, checkpoint(3, "/j"), is(1)}, turn{1, restore("/i"), fails(api.ErrBusy)}, turn{2, wait(), both(3, 255)}, turn{1, restore("/j"), is(3)})
	want.Parent = 1
	checkProc(t, "P17", k, want)
	playAll(t, "P17", k, turn{2, wait(), fails(api.ErrChild)}, turn{1, wait(), both(3, 255)}, turn{2, restore("/i"), is(3)}, turn{1, wait(), fails(api.ErrAgain)}, turn{2, wait(), both(3, 255)})
}

// TestTreeOfFifteen has as many processes as a tree can, with as many objects.
func TestTreeOfFifteen(t *testing.T) {
	k := boot(t, loop(t), dir("/d"))
	playAll(t, "P17", k, turn{1, fork(), is(2)})
	for pid := 3; pid <= 16; pid++ {
		playAll(t, "P12", k, turn{pid - 1, fork(), is(pid)})
	}
	for pid := 2; pid <= 16; pid++ {
		name := "/d/a-long-name-" + strconv.Itoa(10 + pid)[1:]
		playAll(t, "P9", k,
			turn{pid, open(name, 1), is(3)}, turn{pid, write(3, name), is(len(name))}, turn{pid, open(name, 0), is(4)}, turn{pid, seek(4, pid), done()},
			turn{pid, pipe(), both(5, 6)}, turn{pid, write(6, strings.Repeat(name, 9)), is(64)}, turn{pid, shut(3 + pid%4), done()},
		)
		if pid%3 == 0 {
			playAll(t, "P8", k, turn{pid, unlink(name), done()})
		}
	}
	b := again(t, k, 2, "/i")
	checkSize(t, k, 2, b)
}

// checkSize asks for an image of a tree having no more bytes than it may.
func checkSize(t *testing.T, k *tinyos.Kernel, root int, b []byte) {
	t.Helper()
	u := k.Used()
	size := 0
	for _, f := range k.Files() {
		size += len(f.Bytes)
	}
	most := 1000 + 200*u.Objects + u.Bytes - size // here all objects are the tree's
	for _, p := range treeOf(k.Procs(), root) {
		most += 600 + 300*len(p.Pages)
		for _, fd := range p.Fds {
			if fd.Kind == api.ReadFd {
				most += 64
			}
		}
	}
	if len(b) > most {
		t.Errorf("P17: an image has %d bytes, more than %d", len(b), most)
	}
}

// TestGreatestSizes holds images against what they may have: of nothing but processes, pages, objects or bytes.
func TestGreatestSizes(t *testing.T) {
	long := "/" + strings.Repeat("x", 14)
	files := []api.File{}
	for n := 1; n < 4; n++ {
		files = append(files, dir(strings.Repeat(long, n)))
	}
	for i := range 5 {
		files = append(files, file(strings.Repeat(long, 3)+"/fourteen-byte"+strconv.Itoa(i), "text"))
	}
	k := boot(t, loop(t), files...)
	playAll(t, "P12", k, turn{1, fork(), is(2)})
	for i := range 5 {
		playAll(t, "P9", k, turn{2, open(files[3+i].Path, 0), is(3 + i)})
	}
	playAll(t, "P17", k, turn{1, checkpoint(2, "/i"), is(1)})
	checkSize(t, k, 2, bytesOf(t, k, "/i"))

	k = boot(t, loop(t))
	playAll(t, "P12", k, turn{1, fork(), is(2)}, turn{2, brk(64), is(0x200)}, turn{2, brk(64), is(0x4200)}, turn{2, brk(64), is(0x8200)})
	playAll(t, "P17", k, turn{1, checkpoint(2, "/i"), is(1)})
	checkSize(t, k, 2, bytesOf(t, k, "/i"))

	k = boot(t, loop(t), file("/f", strings.Repeat("f", 20000)))
	playAll(t, "P17", k, turn{1, fork(), is(2)}, turn{2, open("/f", 0), is(3)}, turn{1, checkpoint(2, "/i"), is(1)}, turn{1, unlink("/f"), done()}, turn{1, checkpoint(2, "/j"), is(1)})
	if i := bytesOf(t, k, "/i"); len(i) > 1000+600+3*300+200 {
		t.Errorf("P17: an image with a file that has a path has %d bytes", len(i))
	}
	if j := bytesOf(t, k, "/j"); len(j) > 1000+600+3*300+200+20000 {
		t.Errorf("P17: an image with a file that was unlinked has %d bytes", len(j))
	}
}

// TestImageHangsOnTheTree: what an image has hangs on the tree alone, not on who asks, who else is there, the time, or other files.
func TestImageHangsOnTheTree(t *testing.T) {
	k := boot(t, counter(t), file("/text", "some text"))
	playAll(t, "P12", k,
		turn{1, fork(), is(2)}, turn{2, fork(), is(3)}, turn{3, fork(), is(4)}, turn{4, fork(), is(5)}, turn{5, sleep(9), done()},
		turn{3, open("/text", 0), is(3)}, turn{3, pipe(), both(4, 5)}, turn{3, write(5, "piped"), is(5)}, turn{4, open("/gone", 1), is(3)}, turn{4, write(3, "gone"), is(4)}, turn{4, unlink("/gone"), done()},
		turn{1, checkpoint(3, "/a"), is(3)}, turn{2, checkpoint(3, "/b"), is(3)},
	)
	want := bytesOf(t, k, "/a")
	playAll(t, "P17", k,
		turn{2, kill(3), done()}, turn{1, kill(4), done()}, turn{1, kill(5), done()}, turn{2, fork(), is(6)}, turn{1, wait(), both(4, 137)}, turn{1, wait(), both(5, 137)}, turn{2, wait(), both(3, 137)},
		turn{1, open("/text", 3), is(3)}, turn{1, write(3, "other"), is(5)}, turn{1, mkdir("/d"), done()}, turn{1, pipe(), both(4, 5)},
	)
	ticks(k, 100)
	playAll(t, "P17", k, turn{6, restore("/a"), is(3)}, turn{6, checkpoint(3, "/c"), is(3)}, turn{1, unlink("/a"), done()}, turn{1, checkpoint(3, "/d/d"), is(3)})
	other := boot(t, loop(t), file("/text", ""), api.File{Path: "/i", Bytes: want})
	ticks(other, 3)
	playAll(t, "P17", other, turn{1, restore("/i"), is(3)}, turn{1, checkpoint(3, "/j"), is(3)})
	for path, b := range map[string][]byte{"/b": bytesOf(t, k, "/b"), "/c": bytesOf(t, k, "/c"), "/d/d": bytesOf(t, k, "/d/d"), "/j": bytesOf(t, other, "/j")} {
		if !bytes.Equal(b, want) {
			t.Errorf("P17: the image %s of the same tree is another one", path)
		}
	}
}

// TestOtherTreesHaveOtherImages: each of these changes the tree.
func TestOtherTreesHaveOtherImages(t *testing.T) {
	seen := map[string]string{}
	for name, change := range map[string]func(k *tinyos.Kernel){
		"nothing":  func(k *tinyos.Kernel) {},
		"step":     func(k *tinyos.Kernel) { steps(t, k, 2, 3) },
		"memory":   func(k *tinyos.Kernel) { ask(t, k, 2, poke(0xff00, "x")) },
		"page":     func(k *tinyos.Kernel) { ask(t, k, 2, brk(1)) },
		"sleep":    func(k *tinyos.Kernel) { ask(t, k, 3, sleep(4)) },
		"sleep on": func(k *tinyos.Kernel) { ask(t, k, 3, sleep(4)); k.Tick() },
		"status":   func(k *tinyos.Kernel) { ask(t, k, 3, exit(1)) },
		"killed":   func(k *tinyos.Kernel) { ask(t, k, 3, kill(3)) },
		"child":    func(k *tinyos.Kernel) { ask(t, k, 2, fork()) },
		"grand":    func(k *tinyos.Kernel) { ask(t, k, 3, fork()) },
		"offset":   func(k *tinyos.Kernel) { ask(t, k, 2, seek(3, 1)) },
		"pipe":     func(k *tinyos.Kernel) { ask(t, k, 2, write(5, "x")) },
		"shut":     func(k *tinyos.Kernel) { ask(t, k, 2, shut(3)) },
		"both":     func(k *tinyos.Kernel) { ask(t, k, 2, shut(3)); ask(t, k, 3, shut(3)) },
		"console":  func(k *tinyos.Kernel) { ask(t, k, 2, shut(0)) },
		"opened":   func(k *tinyos.Kernel) { ask(t, k, 2, shut(3)); ask(t, k, 2, open("/text", 0)) },
		"unlinked": func(k *tinyos.Kernel) { ask(t, k, 1, unlink("/text")) },
		"gone":     func(k *tinyos.Kernel) { ask(t, k, 2, write(3, "S")); ask(t, k, 1, unlink("/text")) },
	} {
		k := boot(t, counter(t), file("/text", "some text"))
		playAll(t, "P12", k, turn{1, fork(), is(2)}, turn{2, open("/text", 0), is(3)}, turn{2, pipe(), both(4, 5)}, turn{2, fork(), is(3)})
		change(k)
		again(t, k, 2, "/i")
		ask(t, k, 1, checkpoint(2, "/i"))
		b := string(bytesOf(t, k, "/i"))
		if other, ok := seen[b]; ok {
			t.Errorf("P17: trees with changes %q and %q have the same image", name, other)
		}
		seen[b] = name
	}
}

func TestCheckpointOfWhom(t *testing.T) {
	k := boot(t, loop(t))
	playAll(t, "P12", k, turn{1, fork(), is(2)}, turn{1, fork(), is(3)}, turn{2, fork(), is(4)}, turn{4, fork(), is(5)}, turn{2, fork(), is(6)}, turn{6, exit(0), done()})
	for pid, wants := range map[int][]api.Errno{
		1: {0, 18, 0, 0, 0, 0, 0},
		2: {0, 18, 18, 18, 0, 0, 0},
		3: {0, 18, 18, 18, 18, 18, 18},
		4: {0, 18, 18, 18, 18, 0, 18},
		5: {0, 18, 18, 18, 18, 18, 18},
	} {
		for root := 1; root <= 6; root++ {
			want := fails(wants[root])
			if wants[root] == api.OK {
				want = is(len(treeOf(k.Procs(), root)))
			}
			playAll(t, "P17", k, turn{pid, checkpoint(root, "/i"), want})
			if wants[root] == api.OK {
				playAll(t, "P8", k, turn{1, unlink("/i"), done()})
			}
		}
		for _, root := range []int{0, -1, 7, 16, 17, 1<<32 + 2, math.MinInt, math.MaxInt} {
			playAll(t, "P17", k, turn{pid, checkpoint(root, "/i"), fails(api.ErrPid)})
		}
	}
	playAll(t, "P17", k, turn{6, checkpoint(6, "/i"), fails(api.ErrState)}, turn{7, checkpoint(2, "/i"), fails(api.ErrPid)})
}

// TestCheckpointPaths: as Mkdir's, for both make something new.
func TestCheckpointPaths(t *testing.T) {
	k := boot(t, loop(t), pathFiles()...)
	playAll(t, "P12", k, turn{1, fork(), is(2)})
	for _, x := range pathCases() {
		want := fails(x.mkdir)
		if x.mkdir == api.OK {
			want = is(1)
		}
		playAll(t, "P17", k, turn{1, checkpoint(2, x.path), want})
		if x.mkdir == api.OK {
			playAll(t, "P8", k, turn{1, restore(x.path), fails(api.ErrBusy)}, turn{1, unlink(x.path), done()})
		}
	}
}

// TestImageIsAFile: it is read, written, copied, and unlinked as others are.
func TestImageIsAFile(t *testing.T) {
	k := boot(t, counter(t), dir("/d"))
	playAll(t, "P17", k, turn{1, fork(), is(2)}, turn{2, brk(1), is(0x200)}, turn{2, poke(0x200, "some text"), is(9)}, turn{1, checkpoint(2, "/d/i"), is(1)})
	b := bytesOf(t, k, "/d/i")
	playAll(t, "P17", k,
		turn{1, checkpoint(2, "/d/i"), fails(api.ErrExists)}, turn{1, mkdir("/d/i"), fails(api.ErrExists)}, turn{1, checkpoint(2, "/d/i/j"), fails(api.ErrDir)}, turn{1, exec("/d/i"), fails(api.ErrHeader)},
		turn{1, open("/d/i", 0), is(3)}, turn{1, read(3, 4096), gives(string(b))}, turn{1, open("/copy", 1), is(4)}, turn{1, write(4, string(b)), is(len(b))},
		turn{2, poke(0x200, "else"), is(4)}, turn{1, kill(2), done()}, turn{1, wait(), both(2, 137)},
		turn{1, write(3, "!"), is(1)}, turn{1, restore("/d/i"), fails(api.ErrImage)}, turn{1, restore("/copy"), is(2)}, turn{2, peek(0x200, 9), gives("some text")},
		turn{1, kill(2), done()}, turn{1, wait(), both(2, 137)}, turn{1, unlink("/copy"), done()}, turn{1, restore("/copy"), fails(api.ErrMissing)},
		turn{1, open("/d/i", 2), is(5)}, turn{1, restore("/d/i"), fails(api.ErrImage)}, turn{1, write(5, string(b)), is(len(b))}, turn{1, restore("/d/i"), is(2)},
	)
}

// sharing is a script that ends ahead of a Checkpoint of process 2 by process 1, and what that answers.
type sharing struct {
	name  string
	turns []turn
	want  answer
}

func sharings() []sharing {
	return []sharing{
		{"a file's object by Fork", []turn{{1, open("/f", 0), is(3)}, {1, fork(), is(2)}}, fails(api.ErrShared)},
		{"it is closed outside", []turn{{1, open("/f", 0), is(3)}, {1, fork(), is(2)}, {1, shut(3), done()}}, is(1)},
		{"it is closed inside", []turn{{1, open("/f", 0), is(3)}, {1, fork(), is(2)}, {2, shut(3), done()}}, is(1)},
		{"it is closed in one place of two", []turn{{1, open("/f", 0), is(3)}, {1, dup(3), is(4)}, {1, fork(), is(2)}, {1, shut(3), done()}}, fails(api.ErrShared)},
		{"with a child of the tree", []turn{{1, open("/f", 0), is(3)}, {1, fork(), is(2)}, {2, fork(), is(3)}, {2, shut(3), done()}}, fails(api.ErrShared)},
		{"with a brother", []turn{{1, open("/f", 0), is(3)}, {1, fork(), is(2)}, {1, fork(), is(3)}, {1, shut(3), done()}}, fails(api.ErrShared)},
		{"with a brother that was killed", []turn{{1, open("/f", 0), is(3)}, {1, fork(), is(2)}, {1, fork(), is(3)}, {1, shut(3), done()}, {1, kill(3), done()}}, is(1)},
		{"with one that was a child of the tree", []turn{{1, fork(), is(2)}, {2, fork(), is(3)}, {3, open("/f", 0), is(3)}, {3, fork(), is(4)}, {4, fork(), is(5)}, {3, exit(0), done()}, {1, kill(2), done()}, {1, wait(), both(2, 137)}, {4, fork(), is(2)}, {4, shut(3), done()}}, fails(api.ErrShared)},
		{"within the tree", []turn{{1, fork(), is(2)}, {2, open("/f", 0), is(3)}, {2, dup(3), is(4)}, {2, fork(), is(3)}, {3, fork(), is(4)}}, is(3)},
		{"a file, not an object", []turn{{1, fork(), is(2)}, {1, open("/f", 0), is(3)}, {2, open("/f", 0), is(3)}}, is(1)},
		{"the console", []turn{{1, fork(), is(2)}, {2, dup(0), is(3)}, {1, dup(0), is(3)}}, is(1)},
		{"both ends of a pipe", []turn{{1, pipe(), both(3, 4)}, {1, fork(), is(2)}}, fails(api.ErrShared)},
		{"an end to read", []turn{{1, pipe(), both(3, 4)}, {1, fork(), is(2)}, {1, shut(4), done()}, {2, shut(4), done()}}, fails(api.ErrShared)},
		{"an end to write", []turn{{1, pipe(), both(3, 4)}, {1, fork(), is(2)}, {1, shut(3), done()}, {2, shut(3), done()}}, fails(api.ErrShared)},
		{"read inside, written outside", []turn{{1, pipe(), both(3, 4)}, {1, fork(), is(2)}, {1, shut(3), done()}, {2, shut(4), done()}}, fails(api.ErrShared)},
		{"written inside, read outside", []turn{{1, pipe(), both(3, 4)}, {1, fork(), is(2)}, {1, shut(4), done()}, {2, shut(3), done()}}, fails(api.ErrShared)},
		{"written by a child's child, read outside", []turn{{1, pipe(), both(3, 4)}, {1, fork(), is(2)}, {2, fork(), is(3)}, {1, shut(4), done()}, {2, shut(3), done()}, {2, shut(4), done()}, {3, shut(3), done()}}, fails(api.ErrShared)},
		{"both ends inside", []turn{{1, pipe(), both(3, 4)}, {1, fork(), is(2)}, {1, shut(3), done()}, {1, shut(4), done()}}, is(1)},
		{"both ends outside", []turn{{1, pipe(), both(3, 4)}, {1, fork(), is(2)}, {2, shut(3), done()}, {2, shut(4), done()}}, is(1)},
		{"one end inside, the other nowhere", []turn{{1, pipe(), both(3, 4)}, {1, fork(), is(2)}, {1, shut(3), done()}, {1, shut(4), done()}, {2, shut(3), done()}}, is(1)},
		{"the ends in two processes of the tree", []turn{{1, fork(), is(2)}, {2, pipe(), both(3, 4)}, {2, fork(), is(3)}, {2, shut(3), done()}, {3, shut(4), done()}}, is(2)},
		{"an unlinked file", []turn{{1, fork(), is(2)}, {1, open("/f", 0), is(3)}, {2, open("/f", 0), is(3)}, {1, unlink("/f"), done()}}, fails(api.ErrShared)},
		{"an unlinked file, where the path is another one's", []turn{{1, fork(), is(2)}, {1, open("/f", 0), is(3)}, {2, open("/f", 0), is(3)}, {1, unlink("/f"), done()}, {1, open("/f", 1), is(4)}}, fails(api.ErrShared)},
		{"another file of the path", []turn{{1, fork(), is(2)}, {2, open("/f", 0), is(3)}, {1, unlink("/f"), done()}, {1, open("/f", 1), is(3)}}, is(1)},
		{"another unlinked file of the path", []turn{{1, fork(), is(2)}, {2, open("/f", 0), is(3)}, {1, unlink("/f"), done()}, {1, open("/f", 1), is(3)}, {1, unlink("/f"), done()}}, is(1)},
		{"an unlinked file's object", []turn{{1, open("/f", 0), is(3)}, {1, unlink("/f"), done()}, {1, fork(), is(2)}}, fails(api.ErrShared)},
		{"an unlinked file that is closed outside", []turn{{1, fork(), is(2)}, {1, open("/f", 0), is(3)}, {2, open("/f", 0), is(3)}, {1, unlink("/f"), done()}, {1, shut(3), done()}}, is(1)},
		{"an unlinked file outside", []turn{{1, fork(), is(2)}, {1, open("/f", 0), is(3)}, {1, unlink("/f"), done()}}, is(1)},
		{"an unlinked file twice inside", []turn{{1, fork(), is(2)}, {2, fork(), is(3)}, {3, open("/f", 0), is(3)}, {2, open("/f", 0), is(3)}, {1, unlink("/f"), done()}}, is(2)},
	}
}

func TestCheckpointShared(t *testing.T) {
	for _, x := range sharings() {
		k := boot(t, loop(t), file("/f", "text"))
		playAll(t, "P17, "+x.name, k, x.turns...)
		playAll(t, "P17, "+x.name, k, turn{1, checkpoint(2, "/i"), x.want})
		if x.want.err == api.OK {
			playAll(t, "P8", k, turn{1, unlink("/i"), done()})
			again(t, k, 2, "/i")
		}
	}
}

func TestCheckpointErrorsInOrder(t *testing.T) {
	size := len(loop(t)) + 4
	for _, l := range []api.Limits{withLimit(3, 3), withLimit(4, size), room()} {
		k := bootLimited(t, l, file("/f", "text"))
		playAll(t, "P17", k, turn{1, open("/f", 0), is(3)}, turn{1, fork(), is(2)}, turn{1, fork(), is(3)}, turn{3, shut(3), done()})
		for _, path := range []string{"/i", "/f", "/", "x", "/x/y", "/f/x"} {
			playAll(t, "P17: ErrPid ahead of all", k, turn{1, checkpoint(1, path), fails(api.ErrPid)}, turn{1, checkpoint(4, path), fails(api.ErrPid)}, turn{2, checkpoint(1, path), fails(api.ErrPid)}, turn{2, checkpoint(3, path), fails(api.ErrPid)})
		}
		full := fails(api.ErrFull)
		if l == room() {
			full = is(1)
		}
		for root := 2; root <= 3; root++ {
			playAll(t, "P17: a path's errors ahead of ErrShared and ErrFull", k,
				turn{1, checkpoint(root, "x"), fails(api.ErrPath)}, turn{1, checkpoint(root, "/x/y"), fails(api.ErrMissing)}, turn{1, checkpoint(root, "/f/x"), fails(api.ErrDir)},
				turn{1, checkpoint(root, "/f"), fails(api.ErrExists)}, turn{1, checkpoint(root, "/init"), fails(api.ErrExists)}, turn{1, checkpoint(root, "/"), fails(api.ErrExists)},
			)
		}
		playAll(t, "P17: ErrShared ahead of ErrFull", k, turn{1, checkpoint(2, "/i"), fails(api.ErrShared)}, turn{1, checkpoint(3, "/i"), full})
	}
}

// imageSize is how many bytes an image of process 2 of this kernel has.
func imageSize(t *testing.T, k *tinyos.Kernel) int {
	t.Helper()
	ask(t, k, 1, checkpoint(2, "/size"))
	defer ask(t, k, 1, unlink("/size"))
	return len(bytesOf(t, k, "/size"))
}

func TestCheckpointLimits(t *testing.T) {
	k := bootLimited(t, withLimit(3, 4), dir("/d"))
	playAll(t, "P17: inodes", k,
		turn{1, fork(), is(2)}, turn{1, checkpoint(2, "/d/i"), is(1)}, turn{1, checkpoint(2, "/d/j"), fails(api.ErrFull)},
		turn{1, open("/d/i", 0), is(3)}, turn{1, unlink("/d/i"), done()}, turn{1, checkpoint(2, "/d/j"), fails(api.ErrFull)}, turn{1, shut(3), done()}, turn{1, checkpoint(2, "/d/j"), is(1)},
	)
	k = boot(t, loop(t))
	playAll(t, "P12", k, turn{1, fork(), is(2)})
	size := imageSize(t, k)
	for spare := -2; spare <= 2; spare++ {
		k := bootLimited(t, withLimit(4, len(loop(t))+size+spare))
		playAll(t, "P12", k, turn{1, fork(), is(2)})
		if spare < 0 {
			playAll(t, "P17: bytes", k, turn{1, checkpoint(2, "/i"), fails(api.ErrFull)}, turn{1, checkpoint(2, "/i"), fails(api.ErrFull)})
			continue
		}
		playAll(t, "P17: bytes", k, turn{1, checkpoint(2, "/i"), is(1)}, turn{1, checkpoint(2, "/j"), fails(api.ErrFull)})
		checkUsed(t, k, 0, 1, size)
		endTree(t, k, 2)
		playAll(t, "P17: bytes", k, turn{1, restore("/i"), is(2)}, turn{1, unlink("/i"), done()}, turn{1, checkpoint(2, "/j"), is(1)})
	}
}

// TestCheckpointMaxSeek: pages and an unlinked file make an image so long as one may be.
func TestCheckpointMaxSeek(t *testing.T) {
	grown := func(count int) *tinyos.Kernel {
		k := bootLimited(t, room(), file("/f", strings.Repeat("f", count)))
		playAll(t, "P17", k,
			turn{1, fork(), is(2)}, turn{2, open("/f", 0), is(3)}, turn{1, unlink("/f"), done()},
			turn{2, brk(64), is(0x200)}, turn{2, brk(64), is(0x4200)}, turn{2, poke(0x1234, "some text"), is(9)},
		)
		return k
	}
	size := imageSize(t, grown(0))
	for spare := -2; spare <= 2; spare++ {
		k := grown(65536 - size - spare)
		if spare < 0 {
			playAll(t, "P17: MaxSeek", k, turn{1, checkpoint(2, "/i"), fails(api.ErrFull)})
			continue
		}
		playAll(t, "P17: MaxSeek", k, turn{1, checkpoint(2, "/i"), is(1)})
		if got := len(bytesOf(t, k, "/i")); got != 65536-spare {
			t.Fatalf("P17: an image of %d bytes, want %d", got, 65536-spare)
		}
		endTree(t, k, 2)
		playAll(t, "P17: MaxSeek", k, turn{1, restore("/i"), is(2)}, turn{2, peek(0x1234, 9), gives("some text")}, turn{2, read(3, 9), gives("fffffffff")})
	}
	k := bootLimited(t, room(), file("/f", strings.Repeat("f", 70000)))
	playAll(t, "P17: MaxSeek", k, turn{1, fork(), is(2)}, turn{2, open("/f", 0), is(3)}, turn{1, checkpoint(2, "/i"), is(1)}, turn{1, unlink("/f"), done()}, turn{1, checkpoint(2, "/j"), fails(api.ErrFull)})
}

func TestDocumentsCheckpoint(t *testing.T) {
	l := api.Limits{Procs: 6, Frames: 40, Objects: 10, Inodes: 12, Bytes: 30000}
	playAll(t, "P17", bootLimited(t, l, dir("/d"), file("/text", "some text")),
		turn{1, fork(), is(2)},
		turn{1, checkpoint(2, "/i"), is(1)},
		turn{1, checkpoint(2, "/i"), fails(api.ErrExists)},
		turn{1, restore("/i"), fails(api.ErrBusy)},
		turn{1, kill(2), done()},
		turn{1, wait(), both(2, 137)},
		turn{1, restore("/i"), is(2)},
		turn{1, restore("/text"), fails(api.ErrImage)},
	)
}
