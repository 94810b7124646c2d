package tinyos_test

import (
	"bytes"
	"math"
	"slices"
	"strings"
	"testing"

	"tinyos/api"
	"tinyos/tinyos"
)

// nowhere is an address at which there is nothing, and a number of bytes that is too great.
const nowhere = math.MaxUint64 - 2

// withRegs are registers 1, 2 and so on; the others have numbers that are all different.
func withRegs(list ...uint64) [16]uint64 {
	var regs [16]uint64
	for n := range regs {
		regs[n] = 0x0101010101010101*uint64(n) + 0x8070605040302010
	}
	copy(regs[1:], list)
	return regs
}

// sheets are the pages 7 to 12, which may be used as those of sundry, full of x but for these texts.
func sheets(texts map[int]string) []seg {
	b := bytes.Repeat([]byte("x"), 0x600)
	for addr, text := range texts {
		copy(b[addr-0x700:], text)
	}
	segs := []seg{{perm: 6, addr: 0x700, data: b[:0x200]}}
	for n, perm := range []uint64{4, 2, 1, 5} {
		segs = append(segs, seg{perm: perm, addr: uint64(0x900 + 0x100*n), data: b[0x200+0x100*n:][:0x100]})
	}
	return segs
}

// words are numbers as they stand in memory.
func words(list ...uint64) string {
	b := make([]byte, 8*len(list))
	for i, n := range list {
		put(b, 8*i, 8, n)
	}
	return string(b)
}

// atEcall boots a kernel whose process 1 has these registers and is at an Ecall, and then makes calls by Do.
func atEcall(t *testing.T, regs [16]uint64, segs []seg, turns ...turn) *tinyos.Kernel {
	t.Helper()
	k := bootWith(t, regs, instrs(t, api.Instr{Op: api.Ecall}), segs...)
	playAll(t, "P7", k, turns...)
	return k
}

// laid has a call in registers and memory, only what the call has: the other addresses are nowhere.
func laid(c api.Call) ([16]uint64, []seg) {
	regs := withRegs(uint64(c.Kind), uint64(c.A), uint64(c.B), nowhere, nowhere, nowhere)
	texts := map[int]string{}
	switch c.Kind {
	case api.Exec, api.Open, api.Unlink, api.Mkdir, api.Checkpoint, api.Restore:
		regs[4] = 0x700
		texts[0x700] = c.S + "\x00"
	case api.Write, api.Poke:
		regs[5], regs[6] = 0x800, uint64(len(c.D))
		texts[0x800] = string(c.D)
	case api.Read, api.Peek:
		regs[5] = 0xa00
	}
	if c.Kind == api.Exec {
		regs[5] = 0x780
		at := []uint64{}
		for i, s := range c.L {
			at = append(at, uint64(0x800+40*i))
			texts[0x800+40*i] = s + "\x00"
		}
		texts[0x780] = words(append(at, 0)...)
	}
	return regs, sheets(texts)
}

// ecalled is what becomes of all that a kernel tells when a process made a call by an Ecall, if by Do it became this.
func ecalled(w whole, pid int, c api.Call, a answer) whole {
	at := func(pid int) *api.Proc {
		return &w.procs[slices.IndexFunc(w.procs, func(p api.Proc) bool { return p.PID == pid })]
	}
	p := at(pid)
	switch {
	case a.err == api.ErrAgain, p.State == api.Zombie, a.err == api.OK && c.Kind == api.Exec:
		return w
	case a.err != api.OK:
		p.Regs[1] = uint64(-int64(a.err))
	default:
		for i := range len(a.d) {
			*byteAt(p, p.Regs[5]+uint64(i)) = a.d[i]
		}
		p.Regs[1], p.Regs[2] = uint64(a.n), uint64(a.m)
	}
	p.PC += 4
	if a.err == api.OK && c.Kind == api.Fork {
		child := at(a.n)
		child.Regs[1] = 0
		child.PC += 4
	}
	return w
}

// checkEcall has a process do an Ecall, asks for this answer, and for what is told then.
func checkEcall(t *testing.T, what string, k *tinyos.Kernel, pid int, c api.Call, want answer, becomes whole) {
	t.Helper()
	if err := k.Step(pid); err != nil {
		t.Fatalf("P19: %s: Step(%d): %v", what, pid, err)
	}
	if got, want := tellAll(k), ecalled(becomes, pid, c, want); !got.same(want) {
		t.Fatalf("P19: %s: used %+v, want %+v; processes\n%s\nwant\n%s", what, got.used, want.used, briefAll(got.procs), briefAll(want.procs))
	}
}

// checkTwins has a process make a call by an Ecall, and by Do in another kernel that came about likewise.
func checkTwins(t *testing.T, what string, pid int, c api.Call, want answer, turns ...turn) {
	t.Helper()
	regs, segs := laid(c)
	k, twin := atEcall(t, regs, segs, turns...), atEcall(t, regs, segs, turns...)
	typeIn(t, k, "typed")
	typeIn(t, twin, "typed")
	try(t, what, twin, turn{pid, c, want})
	checkEcall(t, what, k, pid, c, want, tellAll(twin))
	checkConsole(t, k, string(twin.Console()))
}

// checkRefused has a process do an Ecall that answers an error, of whatever call.
func checkRefused(t *testing.T, what string, k *tinyos.Kernel, err api.Errno) {
	t.Helper()
	checkEcall(t, what, k, 1, api.Call{}, fails(err), tellAll(k))
}

func TestDocumentsEcalls(t *testing.T) {
	for _, x := range []struct {
		kind int16
		want int64
	}{{7, 1}, {99, -23}} {
		k := boot(t, program(0x100, seg{perm: 5, addr: 0x100, data: instrs(t, api.Instr{Op: api.Li, A: 1, Imm: x.kind}, api.Instr{Op: api.Ecall})}))
		want := proc(t, k, 1)
		want.PC += 8
		want.Regs[1] = uint64(x.want)
		steps(t, k, 1, 2)
		checkProc(t, "P19", k, want)
	}
}

// opened makes a file with these bytes, which descriptor 3 of process 1 is of, at its begin.
func opened(path, b string) []turn {
	return []turn{{1, open(path, 1), is(3)}, {1, write(3, b), is(len(b))}, {1, seek(3, 0), done()}}
}

// written makes a file with these bytes.
func written(path, b string) []turn { return append(opened(path, b), turn{1, shut(3), done()}) }

func TestEcallOfFiles(t *testing.T) {
	text := opened("/f", "some text")
	checkTwins(t, "Getpid", 1, getpid(), is(1))
	checkTwins(t, "Open", 1, open("/f", 0), is(4), text...)
	checkTwins(t, "Open makes", 1, open("/new", 1), is(3))
	checkTwins(t, "Open empties", 1, open("/f", 2), is(4), text...)
	checkTwins(t, "Open with a wrong A", 1, open("/f", -1), fails(api.ErrArgs), text...)
	checkTwins(t, "Open with A of 64 bits", 1, open("/f", 1<<32), fails(api.ErrArgs), text...)
	checkTwins(t, "Close", 1, shut(3), done(), text...)
	checkTwins(t, "Close of none", 1, shut(3), fails(api.ErrFd))
	checkTwins(t, "Close of none, of 64 bits", 1, shut(1<<32), fails(api.ErrFd))
	checkTwins(t, "Read", 1, read(3, 5), gives("some "), text...)
	checkTwins(t, "Read to the end", 1, read(3, 250), gives("some text"), text...)
	checkTwins(t, "Read of no bytes", 1, read(3, 0), gives(""), text...)
	checkTwins(t, "Read of the console", 1, read(0, 3), gives("typ"))
	checkTwins(t, "Read with B below 0", 1, read(3, -1), fails(api.ErrArgs), text...)
	checkTwins(t, "Read of none", 1, read(3, 1), fails(api.ErrFd))
	checkTwins(t, "Write", 1, write(3, "SOME"), is(4), text...)
	checkTwins(t, "Write to the console", 1, write(1, "hello\x00there"), is(11))
	checkTwins(t, "Write of no bytes", 1, write(1, ""), is(0))
	checkTwins(t, "Write above the greatest offset", 1, write(3, "x"), fails(api.ErrFull), append(text, turn{1, seek(3, 65536), done()})...)
	checkTwins(t, "Write of none", 1, write(-1, "x"), fails(api.ErrFd))
	checkTwins(t, "Seek", 1, seek(3, 65536), done(), text...)
	checkTwins(t, "Seek too far", 1, seek(3, 65537), fails(api.ErrArgs), text...)
	checkTwins(t, "Seek of the console", 1, seek(0, 0), fails(api.ErrFd))
	checkTwins(t, "Dup", 1, dup(3), is(4), text...)
	checkTwins(t, "Dup of none", 1, dup(4), fails(api.ErrFd), text...)
	checkTwins(t, "Unlink", 1, unlink("/f"), done(), text...)
	checkTwins(t, "Unlink of none", 1, unlink("/g"), fails(api.ErrMissing), text...)
	checkTwins(t, "Unlink of the root", 1, unlink("/"), fails(api.ErrBusy))
	checkTwins(t, "Mkdir", 1, mkdir("/d"), done())
	checkTwins(t, "Mkdir of one that is there", 1, mkdir("/init"), fails(api.ErrExists))
	checkTwins(t, "Mkdir in a file", 1, mkdir("/init/d"), fails(api.ErrDir))
	checkTwins(t, "Mkdir of no path", 1, mkdir("d"), fails(api.ErrPath))
	checkTwins(t, "Mkdir of no bytes", 1, mkdir(""), fails(api.ErrPath))
}

func TestEcallOfPipes(t *testing.T) {
	made := []turn{{1, pipe(), both(3, 4)}}
	checkTwins(t, "Pipe", 1, pipe(), both(3, 4))
	checkTwins(t, "Pipe again", 1, pipe(), both(5, 6), made...)
	checkTwins(t, "Pipe, with no two descriptors", 1, pipe(), fails(api.ErrFds), append(made, turn{1, pipe(), both(5, 6)})...)
	checkTwins(t, "Dup, with none", 1, dup(0), fails(api.ErrFds), append(made, turn{1, pipe(), both(5, 6)}, turn{1, dup(0), is(7)})...)
	checkTwins(t, "Open, with none", 1, open("/new", 1), fails(api.ErrFds), append(made, turn{1, pipe(), both(5, 6)}, turn{1, dup(0), is(7)})...)
	checkTwins(t, "Write", 1, write(4, "abc"), is(3), made...)
	checkTwins(t, "Write of more than there is room for", 1, write(4, strings.Repeat("y", 100)), is(64), made...)
	checkTwins(t, "Write of nothing to a full one", 1, write(4, ""), is(0), append(made, turn{1, write(4, strings.Repeat("y", 64)), is(64)})...)
	checkTwins(t, "Write to a full one", 1, write(4, "z"), fails(api.ErrAgain), append(made, turn{1, write(4, strings.Repeat("y", 64)), is(64)})...)
	checkTwins(t, "Write that nobody reads", 1, write(4, "z"), fails(api.ErrPipe), append(made, turn{1, shut(3), done()})...)
	checkTwins(t, "Write to the wrong end", 1, write(3, "z"), fails(api.ErrFd), made...)
	checkTwins(t, "Read", 1, read(3, 2), gives("ab"), append(made, turn{1, write(4, "abc"), is(3)})...)
	checkTwins(t, "Read of an empty one", 1, read(3, 2), fails(api.ErrAgain), made...)
	checkTwins(t, "Read of no bytes", 1, read(3, 0), gives(""), made...)
	checkTwins(t, "Read that nobody writes", 1, read(3, 2), gives(""), append(made, turn{1, shut(4), done()})...)
	checkTwins(t, "Read of the wrong end", 1, read(4, 2), fails(api.ErrFd), made...)
}

func TestEcallOfProcesses(t *testing.T) {
	two := []turn{{1, fork(), is(2)}}
	three := append(two, turn{2, fork(), is(3)}, turn{1, pipe(), both(3, 4)})
	all := []turn{}
	for pid := 2; pid <= 16; pid++ {
		all = append(all, turn{1, fork(), is(pid)})
	}
	many := []turn{{1, brk(64), is(0xd00)}, {1, brk(64), is(0x4d00)}, {1, brk(64), is(0x8d00)}, {1, fork(), is(2)}, {1, fork(), is(3)}, {1, fork(), is(4)}}
	checkTwins(t, "Fork", 1, fork(), is(2))
	checkTwins(t, "Fork of a child", 2, fork(), is(4), three...)
	checkTwins(t, "Fork, with no process free", 3, fork(), fails(api.ErrProcs), all...)
	checkTwins(t, "Fork, with too few frames", 2, fork(), fails(api.ErrMemory), many...)
	for _, a := range []int{0, 5, 255, 256, 260, -1, -300, 1 << 32, math.MinInt, math.MaxInt} {
		checkTwins(t, "Exit", 2, exit(a), done(), three...)
	}
	checkTwins(t, "Exit of process 1", 1, exit(5), fails(api.ErrPid), three...)
	checkTwins(t, "Wait", 1, wait(), both(2, 44), append(two, turn{2, exit(300), done()})...)
	checkTwins(t, "Wait without a child", 2, wait(), fails(api.ErrChild), two...)
	checkTwins(t, "Wait without a zombie", 1, wait(), fails(api.ErrAgain), two...)
	checkTwins(t, "Kill", 1, kill(3), done(), three...)
	checkTwins(t, "Kill of a parent", 3, kill(2), done(), three...)
	checkTwins(t, "Kill of itself", 2, kill(2), done(), three...)
	checkTwins(t, "Kill of process 1", 2, kill(1), fails(api.ErrPid), three...)
	checkTwins(t, "Kill of process 1 by itself", 1, kill(1), fails(api.ErrPid), three...)
	checkTwins(t, "Kill of none", 1, kill(4), fails(api.ErrPid), three...)
	checkTwins(t, "Kill of none, of 64 bits", 1, kill(1<<32+2), fails(api.ErrPid), three...)
	checkTwins(t, "Kill of a zombie", 1, kill(3), fails(api.ErrPid), append(three, turn{3, exit(0), done()})...)
	checkTwins(t, "Sleep", 1, sleep(2), done())
	checkTwins(t, "Sleep for the greatest time", 2, sleep(1<<20), done(), two...)
	checkTwins(t, "Sleep for no time", 1, sleep(0), done())
	checkTwins(t, "Sleep for too long", 1, sleep(1<<20+1), fails(api.ErrArgs))
	checkTwins(t, "Sleep for less than no time", 1, sleep(-1), fails(api.ErrArgs))
}

func TestEcallOfMemory(t *testing.T) {
	checkTwins(t, "Brk", 1, brk(2), is(0xd00))
	checkTwins(t, "Brk of no page", 1, brk(0), is(0xd00))
	checkTwins(t, "Brk of too many", 1, brk(65), fails(api.ErrArgs))
	checkTwins(t, "Brk of -1", 1, brk(-1), fails(api.ErrArgs))
	checkTwins(t, "Brk up to the stack", 1, brk(50), fails(api.ErrMemory), turn{1, brk(64), is(0xd00)}, turn{1, brk(64), is(0x4d00)}, turn{1, brk(64), is(0x8d00)})
	checkTwins(t, "Peek", 1, peek(0x8fe, 4), gives("xxxx"))
	checkTwins(t, "Peek of no bytes", 1, peek(-1, 0), gives(""))
	checkTwins(t, "Peek of the code", 1, peek(0x100, 4), gives("\x01\x00\x00\x04"))
	checkTwins(t, "Peek of bytes that are not there", 1, peek(0xcff, 2), fails(api.ErrMemory))
	checkTwins(t, "Peek with B below 0", 1, peek(0x700, -1), fails(api.ErrArgs))
	checkTwins(t, "Poke", 1, poke(0xafe, "ab"), is(2))
	checkTwins(t, "Poke of no bytes", 1, poke(-1, ""), is(0))
	checkTwins(t, "Poke over itself", 1, poke(0x804, "abcdefghijklmnop"), is(16))
	checkTwins(t, "Poke where nothing may be written", 1, poke(0x900, "ab"), fails(api.ErrMemory))
	checkTwins(t, "Poke beyond", 1, poke(0xffff, "ab"), fails(api.ErrMemory))
}

func TestEcallOfExec(t *testing.T) {
	header, segment, entry := loop(t), loop(t), loop(t)
	header[0], segment[64], entry[24] = 0, 2, 2
	overlap := program(0x100, seg{perm: 5, addr: 0x100, data: []byte{1}}, seg{perm: 4, addr: 0x180, data: []byte{1}})
	files := slices.Concat(written("/prog", string(prog(t))), written("/header", string(header)), written("/segment", string(segment)), written("/overlap", string(overlap)),
		written("/entry", string(entry)), []turn{{1, mkdir("/d"), done()}, {1, fork(), is(2)}})
	for _, args := range [][]string{{}, {"one"}, {"", "two", ""}, {"\xff\x01/", "b"}, slices.Repeat([]string{strings.Repeat("y", 30)}, 8)} {
		checkTwins(t, "Exec", 2, exec("/prog", args...), done(), files...)
	}
	checkTwins(t, "Exec of the same file", 1, exec("/init", "again"), done())
	checkTwins(t, "Exec of too long an argument", 2, exec("/prog", strings.Repeat("y", 31)), fails(api.ErrArgs), files...)
	for path, err := range map[string]api.Errno{
		"prog": api.ErrPath, "/x": api.ErrMissing, "/x/y": api.ErrMissing, "/d": api.ErrDir, "/": api.ErrDir, "/prog/x": api.ErrDir,
		"/header": api.ErrHeader, "/segment": api.ErrSegment, "/overlap": api.ErrOverlap, "/entry": api.ErrEntry,
	} {
		checkTwins(t, "Exec of "+path, 2, exec(path, "one"), fails(err), files...)
	}
	checkTwins(t, "Exec with too few frames", 5, exec("/most"), fails(api.ErrMemory), fullOfFrames()...)
}

// fullOfFrames makes processes that leave less than 100 frames free.
func fullOfFrames() []turn {
	list := written("/most", string(sized(252)))
	for pid := 2; pid <= 5; pid++ {
		list = append(list, turn{1, fork(), is(pid)})
	}
	for pid := 2; pid <= 4; pid++ {
		list = append(list, turn{pid, exec("/most"), done()})
	}
	return append(list, turn{1, brk(64), is(0xd00)}, turn{1, brk(64), is(0x4d00)}, turn{1, brk(20), is(0x8d00)})
}

func TestEcallOfTrees(t *testing.T) {
	family := []turn{{1, fork(), is(2)}, {2, fork(), is(3)}, {2, pipe(), both(3, 4)}, {2, write(4, "abc"), is(3)}, {3, sleep(9), done()}, {1, fork(), is(4)}}
	imaged := append(family, turn{1, checkpoint(2, "/i"), is(2)})
	gone := append(imaged, turn{1, kill(3), done()}, turn{2, wait(), both(3, 137)}, turn{1, kill(2), done()}, turn{1, wait(), both(2, 137)})
	checkTwins(t, "Checkpoint", 1, checkpoint(2, "/i"), is(2), family...)
	checkTwins(t, "Checkpoint by a child", 2, checkpoint(3, "/i"), is(1), family...)
	checkTwins(t, "Checkpoint of itself", 2, checkpoint(2, "/i"), fails(api.ErrPid), family...)
	checkTwins(t, "Checkpoint of none", 1, checkpoint(9, "/i"), fails(api.ErrPid), family...)
	checkTwins(t, "Checkpoint without a path", 1, checkpoint(2, "i"), fails(api.ErrPath), family...)
	checkTwins(t, "Checkpoint to a file that is there", 1, checkpoint(2, "/i"), fails(api.ErrExists), imaged...)
	checkTwins(t, "Checkpoint of what is shared", 2, checkpoint(5, "/i"), fails(api.ErrShared), append(family, turn{2, fork(), is(5)})...)
	checkTwins(t, "Checkpoint of too many bytes", 1, checkpoint(2, "/i"), fails(api.ErrFull), append(family, turn{2, brk(64), is(0xd00)}, turn{2, brk(64), is(0x4d00)}, turn{2, brk(64), is(0x8d00)}, turn{2, brk(45), is(0xcd00)}, turn{2, wait(), fails(api.ErrAgain)}, turn{2, fork(), is(5)})...)
	checkTwins(t, "Restore", 1, restore("/i"), is(2), gone...)
	checkTwins(t, "Restore by a child", 4, restore("/i"), is(2), gone...)
	checkTwins(t, "Restore of what is there", 1, restore("/i"), fails(api.ErrBusy), imaged...)
	checkTwins(t, "Restore of no image", 1, restore("/init"), fails(api.ErrImage), gone...)
	checkTwins(t, "Restore of no file", 1, restore("/j"), fails(api.ErrMissing), gone...)
	checkTwins(t, "Restore of a directory", 1, restore("/"), fails(api.ErrDir), gone...)
}

// TestEcallOfNoKind: ErrCall is ahead of all else, whatever the other registers have.
func TestEcallOfNoKind(t *testing.T) {
	for _, kind := range []uint64{0, 22, 23, 24, 99, 255, 256, 256 + 7, 1 << 16, 1<<32 + 7, 1 << 32, 1<<63 + 7, 1 << 63, math.MaxUint64, math.MaxUint64 - 6, math.MaxInt64} {
		for _, rest := range []uint64{0, 1, 0x700, nowhere} {
			k := atEcall(t, withRegs(kind, rest, rest, rest, rest, rest), sheets(nil))
			checkRefused(t, "no kind", k, api.ErrCall)
		}
	}
}

// TestEcallAlone: what stands in an Ecall beside its Op does not matter.
func TestEcallAlone(t *testing.T) {
	for a := range 16 {
		for _, imm := range imms {
			k := bootWith(t, withRegs(uint64(api.Getpid), 9), instrs(t, api.Instr{Op: api.Ecall, A: a, B: 15 - a, Imm: imm}))
			checkEcall(t, "Getpid", k, 1, getpid(), is(1), tellAll(k))
		}
	}
}

// TestEcallOverPages: the next instruction is in another page, or not there.
func TestEcallOverPages(t *testing.T) {
	ecall := instrs(t, api.Instr{Op: api.Ecall})
	for _, segs := range [][]seg{
		{{perm: 5, addr: 0x1fc, data: ecall}},
		{{perm: 1, addr: 0x1fc, data: slices.Concat(ecall, ecall)}},
	} {
		k := boot(t, program(0x1fc, segs...))
		checkRefused(t, "no kind", k, api.ErrCall)
		if p := proc(t, k, 1); p.PC != 0x200 {
			t.Errorf("P19: PC is %#x, want 0x200", p.PC)
		}
		was := proc(t, k, 1)
		if len(segs[0].data) > 4 {
			checkRefused(t, "no kind again", k, api.ErrCall)
			continue
		}
		steps(t, k, 1, 1)
		checkTrap(t, k, was, 129)
	}
}

// checkStill has a process do steps that change nothing.
func checkStill(t *testing.T, what string, k *tinyos.Kernel, pid int) {
	t.Helper()
	before := tellAll(k)
	for range 5 {
		if err := k.Step(pid); err != nil || !tellAll(k).same(before) {
			t.Fatalf("P19: %s: something changed, or %v", what, err)
		}
	}
	checkConsole(t, k, "")
}

// TestEcallAgain has calls not be answered yet, and be answered by the first step behind what they wait for.
func TestEcallAgain(t *testing.T) {
	full := strings.Repeat("y", 64)
	for _, x := range []struct {
		what  string
		call  api.Call
		turns []turn
		then  func(k *tinyos.Kernel)
		want  answer
	}{
		{"a Read of the console", read(0, 9), nil, func(k *tinyos.Kernel) { typeIn(t, k, "abc") }, gives("abc")},
		{"a Read of a pipe", read(3, 9), []turn{{1, pipe(), both(3, 4)}, {1, fork(), is(2)}}, func(k *tinyos.Kernel) { playAll(t, "P11", k, turn{2, write(4, "abc"), is(3)}) }, gives("abc")},
		{"a Read of a pipe that nobody writes any more", read(3, 9), []turn{{1, pipe(), both(3, 4)}, {1, fork(), is(2)}, {1, shut(4), done()}}, func(k *tinyos.Kernel) { playAll(t, "P12", k, turn{2, exit(0), done()}) }, gives("")},
		{"a Write to a pipe", write(4, "abc"), []turn{{1, pipe(), both(3, 4)}, {1, write(4, full), is(64)}}, func(k *tinyos.Kernel) { playAll(t, "P11", k, turn{1, read(3, 2), gives("yy")}) }, is(2)},
		{"a Write to a pipe that nobody reads any more", write(4, "abc"), []turn{{1, pipe(), both(3, 4)}, {1, fork(), is(2)}, {1, write(4, full), is(64)}, {1, shut(3), done()}}, func(k *tinyos.Kernel) { playAll(t, "P11", k, turn{2, shut(3), done()}) }, fails(api.ErrPipe)},
		{"a Wait", wait(), []turn{{1, fork(), is(2)}, {1, fork(), is(3)}}, func(k *tinyos.Kernel) { playAll(t, "P12", k, turn{3, exit(7), done()}) }, both(3, 7)},
		{"a Wait for a child that is killed", wait(), []turn{{1, fork(), is(2)}, {2, sleep(3), done()}}, func(k *tinyos.Kernel) { playAll(t, "P12", k, turn{1, kill(2), done()}) }, both(2, 137)},
	} {
		regs, segs := laid(x.call)
		k, twin := atEcall(t, regs, segs, x.turns...), atEcall(t, regs, segs, x.turns...)
		checkStill(t, x.what, k, 1)
		ticks(k, 3)
		ticks(twin, 3)
		checkStill(t, x.what, k, 1)
		x.then(k)
		x.then(twin)
		try(t, x.what, twin, turn{1, x.call, x.want})
		checkEcall(t, x.what, k, 1, x.call, x.want, tellAll(twin))
	}
}

// TestEcallAgainOfMany has several processes wait for the same bytes: who makes the step has them.
func TestEcallAgainOfMany(t *testing.T) {
	regs, segs := laid(read(0, 2))
	k := atEcall(t, regs, segs, turn{1, fork(), is(2)}, turn{1, fork(), is(3)})
	for pid := 1; pid <= 3; pid++ {
		checkStill(t, "a Read", k, pid)
	}
	typeIn(t, k, "abc")
	checkEcall(t, "the Read of process 2", k, 2, read(0, 2), gives("ab"), tellAll(k))
	checkEcall(t, "the Read of process 3", k, 3, read(0, 2), gives("c"), tellAll(k))
	checkStill(t, "the Read of process 1", k, 1)
}

// TestEcallFork: both go on behind the Fork, each with its own registers, pages and descriptors.
func TestEcallFork(t *testing.T) {
	k := atEcall(t, withRegs(uint64(api.Fork), 55, 66), sheets(nil), turn{1, pipe(), both(3, 4)})
	was := proc(t, k, 1)
	steps(t, k, 1, 1)
	parent, child := was, was
	parent.PC, parent.Regs[1], parent.Regs[2] = was.PC+4, 2, 0
	child.PID, child.Parent, child.PC, child.Regs[1] = 2, 1, was.PC+4, 0 // register 2 is the same as it was
	checkProc(t, "P19", k, parent)
	checkProc(t, "P19", k, child)
	playAll(t, "P12", k, turn{2, poke(0x700, "child"), is(5)}, turn{2, shut(3), done()}, turn{1, peek(0x700, 5), gives("xxxxx")}, turn{1, write(4, "a"), is(1)})
	checkProc(t, "P12", k, parent)
}

// TestEcallExit leaves a zombie that can be waited for, and whose step is ErrState.
func TestEcallExit(t *testing.T) {
	for _, c := range []api.Call{exit(260), kill(2)} {
		regs, segs := laid(c)
		k := atEcall(t, regs, segs, turn{1, fork(), is(2)}, turn{2, fork(), is(3)})
		was := proc(t, k, 2)
		steps(t, k, 2, 1)
		status := map[api.Kind]int{api.Exit: 4, api.Kill: 137}[c.Kind]
		checkProc(t, "P19", k, zombie(was, status))
		if p := proc(t, k, 3); p.Parent != 1 || p.PC != was.PC || p.Regs != was.Regs {
			t.Errorf("P12: a child of one that ended: %s", brief(p))
		}
		before := tellAll(k)
		if err := k.Step(2); api.Tell(err) != api.ErrState || !tellAll(k).same(before) {
			t.Errorf("P18: Step of a zombie: %v", err)
		}
		playAll(t, "P12", k, turn{1, wait(), both(2, status)})
	}
}

// TestEcallSleep: a process that sleeps has gone on already.
func TestEcallSleep(t *testing.T) {
	regs, segs := laid(sleep(2))
	k := atEcall(t, regs, segs)
	was := proc(t, k, 1)
	steps(t, k, 1, 1)
	was.PC, was.Regs[1], was.Regs[2] = was.PC+4, 0, 0
	for left := 2; left > 0; left-- {
		was.State, was.Left = api.Sleeping, left
		checkProc(t, "P19", k, was)
		if err := k.Step(1); api.Tell(err) != api.ErrState {
			t.Errorf("P18: Step of one that sleeps: %v", err)
		}
		k.Tick()
	}
	was.State, was.Left = api.Ready, 0
	checkProc(t, "P13", k, was)
}

// TestEcallKeepsNothing: what a kernel keeps of a call is not the process's memory, nor the other way round.
func TestEcallKeepsNothing(t *testing.T) {
	regs, segs := laid(write(4, "abc"))
	k := atEcall(t, regs, segs, append(opened("/f", ""), turn{1, open("/f", 0), is(4)})...)
	steps(t, k, 1, 1)
	playAll(t, "P2", k, turn{1, poke(0x800, "ZZZ"), is(3)}, turn{1, read(3, 9), gives("abc")}, turn{1, write(4, "DEF"), is(3)}, turn{1, peek(0x800, 4), gives("ZZZx")})
	regs, segs = laid(read(3, 9))
	regs[5] = 0x800
	k = atEcall(t, regs, segs, opened("/f", "abc")...)
	steps(t, k, 1, 1)
	playAll(t, "P2", k, turn{1, poke(0x800, "ZZZ"), is(3)}, turn{1, seek(3, 0), done()}, turn{1, read(3, 9), gives("abc")}, turn{1, seek(3, 0), done()}, turn{1, write(3, "DEF"), is(3)}, turn{1, peek(0x800, 4), gives("ZZZx")})
	want := tellAll(k)
	scribble(k)
	if !tellAll(k).same(want) {
		t.Error("P2: a kernel changed with what it told")
	}
}
