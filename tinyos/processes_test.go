package tinyos_test

import (
	"math"
	"slices"
	"strings"
	"testing"

	"tinyos/api"
	"tinyos/tinyos"
)

// counter is an executable that counts in register 2, and writes its lowest byte to the stack.
func counter(t *testing.T) []byte {
	t.Helper()
	return program(0x100, seg{perm: 5, addr: 0x100, data: instrs(t,
		api.Instr{Op: api.Addi, A: 2, B: 2, Imm: 1},
		api.Instr{Op: api.Stb, A: 2, B: 15},
		api.Instr{Op: api.Jal, A: 1, Imm: -8},
	)})
}

// wrong is an executable whose first step is a trap with the status 130.
func wrong() []byte { return program(0x100, seg{perm: 5, addr: 0x100, data: []byte{0, 0, 0, 0}}) }

// proc is the process with this number.
func proc(t *testing.T, k *tinyos.Kernel, pid int) api.Proc {
	t.Helper()
	for _, p := range k.Procs() {
		if p.PID == pid {
			return p
		}
	}
	t.Fatalf("P7: there is no process %d", pid)
	return api.Proc{}
}

func steps(t *testing.T, k *tinyos.Kernel, pid, count int) {
	t.Helper()
	for range count {
		if err := k.Step(pid); err != nil {
			t.Fatalf("P18: Step(%d): %v", pid, err)
		}
	}
}

// zombie is what becomes of a process.
func zombie(p api.Proc, status int) api.Proc {
	p.State, p.Status, p.Left, p.Pages, p.Fds = api.Zombie, status, 0, nil, nil
	return p
}

func checkProc(t *testing.T, promise string, k *tinyos.Kernel, want api.Proc) {
	t.Helper()
	if got := proc(t, k, want.PID); !sameProc(got, want) {
		t.Fatalf("%s: %s, want %s", promise, brief(got), brief(want))
	}
}

// kin is a process among others.
type kin struct {
	pid, parent  int
	state        api.State
	status, left int
}

// checkKin asks for these processes and no other, each of them with pages if it is no zombie.
func checkKin(t *testing.T, promise string, k *tinyos.Kernel, want ...kin) {
	t.Helper()
	var got []kin
	frames := 0
	for _, p := range k.Procs() {
		got = append(got, kin{p.PID, p.Parent, p.State, p.Status, p.Left})
		if gone := p.State == api.Zombie; gone != (len(p.Pages) == 0) || gone && len(p.Fds) > 0 {
			t.Fatalf("%s: %s", promise, brief(p))
		}
		frames += len(p.Pages)
	}
	if !slices.Equal(got, want) {
		t.Fatalf("%s: processes %+v, want %+v", promise, got, want)
	}
	if u := k.Used(); u.Procs != len(want) || u.Frames != frames {
		t.Fatalf("P16: used %+v by %d processes with %d pages", u, len(want), frames)
	}
}

func TestForkIsTheSame(t *testing.T) {
	k := boot(t, counter(t), file("/f", "text"))
	play(t, "P12", k, line{open("/f", 0), is(3)}, line{read(3, 2), gives("te")}, line{pipe(), both(4, 5)}, line{shut(1), done()}, line{brk(2), is(0x200)}, line{poke(0x2fe, "abcd"), is(4)})
	steps(t, k, 1, 7)
	was := proc(t, k, 1)
	if was.Regs[2] != 3 || was.PC != 0x104 {
		t.Fatalf("P18: %s", brief(was))
	}
	used := k.Used()
	playAll(t, "P12", k, turn{1, fork(), is(2)})
	child := was
	child.PID, child.Parent = 2, 1
	if got := k.Procs(); !sameProcs(got, []api.Proc{was, child}) {
		t.Fatalf("P12: processes after a fork: %s; %s", brief(got[0]), brief(got[1]))
	}
	used.Procs, used.Frames = 2, 10
	if got := k.Used(); got != used {
		t.Fatalf("P16: used %+v, want %+v", got, used)
	}
	steps(t, k, 2, 2)
	child = proc(t, k, 2)
	playAll(t, "P12", k, turn{2, fork(), is(3)}, turn{2, getpid(), is(2)}, turn{3, getpid(), is(3)}, turn{1, getpid(), is(1)})
	checkProc(t, "P12", k, was)
	checkProc(t, "P12", k, child)
	child.PID, child.Parent = 3, 2
	checkProc(t, "P12", k, child)
}

func TestForkIgnoresTheRest(t *testing.T) {
	k := boot(t, loop(t))
	c := api.Call{Kind: api.Fork, A: -3, B: 7, S: "/x", L: []string{"y"}, D: []byte("z")}
	playAll(t, "P12", k, turn{1, c, is(2)})
	c.Kind = api.Wait
	playAll(t, "P12", k, turn{1, c, fails(api.ErrAgain)}, turn{2, exit(7), done()}, turn{1, c, both(2, 7)}, turn{1, c, fails(api.ErrChild)})
}

// TestForkSharesNoMemory: registers and pages are each process's own, whoever of them changes.
func TestForkSharesNoMemory(t *testing.T) {
	k := boot(t, counter(t))
	playAll(t, "P12", k, turn{1, brk(1), is(0x200)}, turn{1, poke(0x200, "parent"), is(6)}, turn{1, fork(), is(2)}, turn{2, fork(), is(3)})
	playAll(t, "P12", k,
		turn{2, poke(0x200, "child!"), is(6)}, turn{3, peek(0x200, 6), gives("parent")}, turn{1, poke(0x201, "A"), is(1)},
		turn{1, peek(0x200, 6), gives("pArent")}, turn{2, peek(0x200, 6), gives("child!")}, turn{3, peek(0x200, 6), gives("parent")},
		turn{2, brk(1), is(0x300)}, turn{1, peek(0x300, 1), fails(api.ErrMemory)}, turn{3, peek(0x300, 1), fails(api.ErrMemory)},
		turn{3, brk(0), is(0x300)},
	)
	for _, pid := range []int{2, 1, 3, 1} {
		before := k.Procs()
		want := before[pid-1]
		if status := follow(&want); status != 0 {
			t.Fatalf("P18: status %d", status)
		}
		steps(t, k, pid, 1)
		before[pid-1] = want
		if !sameProcs(k.Procs(), before) {
			t.Fatalf("P12: a step of process %d is not its own", pid)
		}
	}
	steps(t, k, 2, 10)
	for i, want := range []uint64{1, 4, 1} {
		if p := proc(t, k, i+1); p.Regs[2] != want {
			t.Errorf("P12: %s, want %d in register 2", brief(p), want)
		}
	}
}

func TestForkSharesObjects(t *testing.T) {
	k := bootLimited(t, withLimit(2, 3), file("/f", "0123456789"))
	playAll(t, "P9, P12", k,
		turn{1, open("/f", 0), is(3)}, turn{1, read(3, 2), gives("01")}, turn{1, fork(), is(2)},
		turn{2, read(3, 2), gives("23")}, turn{1, read(3, 1), gives("4")}, turn{2, seek(3, 9), done()}, turn{1, read(3, 9), gives("9")}, turn{2, write(3, "ab"), is(2)},
	)
	for pid := 1; pid <= 2; pid++ {
		if got, want := proc(t, k, pid).Fds, consoles(api.Fd{Number: 3, Kind: api.FileFd, Offset: 12}); !slices.Equal(got, want) {
			t.Errorf("P12: descriptors of process %d: %+v, want %+v", pid, got, want)
		}
	}
	checkUsed(t, k, 1, 1, 12)
	playAll(t, "P9, P12: what is opened later is not shared", k,
		turn{1, open("/f", 0), is(4)}, turn{2, read(4, 1), fails(api.ErrFd)}, turn{2, dup(3), is(4)}, turn{2, seek(4, 1), done()}, turn{1, read(3, 1), gives("1")}, turn{1, read(4, 1), gives("0")},
		turn{2, fork(), is(3)}, turn{3, read(4, 1), gives("2")}, turn{3, open("/f", 0), is(5)}, turn{1, open("/f", 0), fails(api.ErrFull)},
	)
	checkUsed(t, k, 3, 1, 12)
	playAll(t, "P9, P12: the last descriptor frees the object", k,
		turn{1, shut(3), done()}, turn{2, shut(3), done()}, turn{2, shut(4), done()}, turn{2, shut(4), fails(api.ErrFd)}, turn{3, shut(4), done()}, turn{1, open("/f", 0), fails(api.ErrFull)},
		turn{3, read(3, 2), gives("34")}, turn{3, shut(3), done()}, turn{1, open("/f", 0), is(3)}, turn{1, open("/f", 0), fails(api.ErrFull)},
		turn{3, exit(0), done()}, turn{2, open("/f", 0), is(3)}, turn{2, open("/f", 0), fails(api.ErrFull)},
		turn{1, kill(2), done()}, turn{1, open("/f", 0), is(5)},
	)
	checkUsed(t, k, 3, 1, 12)
}

func TestForkSharesTheConsole(t *testing.T) {
	k := bootLimited(t, withLimit(2, 0))
	playAll(t, "P10, P12", k, turn{1, fork(), is(2)}, turn{2, fork(), is(3)}, turn{1, write(1, "one "), is(4)}, turn{2, write(1, "two "), is(4)}, turn{3, write(0, "three"), is(5)})
	checkConsole(t, k, "one two three")
	typeIn(t, k, "typed")
	playAll(t, "P10, P12", k, turn{2, read(0, 2), gives("ty")}, turn{2, exit(0), done()}, turn{3, shut(0), done()}, turn{1, read(0, 2), gives("pe")}, turn{3, read(1, 2), gives("d")}, turn{1, read(0, 2), fails(api.ErrAgain)})
	checkUsed(t, k, 0, 0, 0)
}

// TestPipeOverProcesses: an end is there as long as any process has a descriptor of it.
func TestPipeOverProcesses(t *testing.T) {
	ends := map[string]func(k *tinyos.Kernel, pid int){
		"exit": func(k *tinyos.Kernel, pid int) { playAll(t, "P12", k, turn{pid, exit(0), done()}) },
		"kill": func(k *tinyos.Kernel, pid int) { playAll(t, "P12", k, turn{1, kill(pid), done()}) },
		"trap": func(k *tinyos.Kernel, pid int) { steps(t, k, pid, 1) },
		"close": func(k *tinyos.Kernel, pid int) {
			playAll(t, "P9", k, turn{pid, shut(3), done()}, turn{pid, shut(4), done()})
		},
	}
	full := strings.Repeat("x", 64)
	for how, end := range ends {
		k := boot(t, wrong())
		playAll(t, "P11, "+how, k,
			turn{1, pipe(), both(3, 4)}, turn{1, fork(), is(2)}, turn{1, shut(4), done()}, turn{1, read(3, 1), fails(api.ErrAgain)},
			turn{2, write(4, "abc"), is(3)}, turn{1, read(3, 2), gives("ab")}, turn{2, fork(), is(3)},
		)
		end(k, 2)
		playAll(t, "P11, "+how, k, turn{1, read(3, 9), gives("c")}, turn{1, read(3, 1), fails(api.ErrAgain)}, turn{3, write(4, "d"), is(1)}, turn{3, sleep(5), done()}, turn{1, read(3, 9), gives("d")}, turn{1, read(3, 9), fails(api.ErrAgain)})
		for range 5 {
			k.Tick()
		}
		playAll(t, "P11, "+how, k, turn{3, write(4, "ef"), is(2)})
		end(k, 3)
		playAll(t, "P11, "+how, k, turn{1, read(3, 1), gives("e")}, turn{1, read(3, 9), gives("f")}, turn{1, read(3, 9), gives("")})
		if u := k.Used(); u.Objects != 1 {
			t.Errorf("P11, %s: %d objects, want 1", how, u.Objects)
		}

		k = boot(t, wrong())
		playAll(t, "P11, "+how, k, turn{1, pipe(), both(3, 4)}, turn{1, fork(), is(2)}, turn{1, fork(), is(3)}, turn{1, shut(3), done()}, turn{1, write(4, full), is(64)}, turn{1, write(4, "x"), fails(api.ErrAgain)})
		end(k, 3)
		playAll(t, "P11, "+how, k, turn{1, write(4, "x"), fails(api.ErrAgain)}, turn{2, read(3, 1), gives("x")}, turn{1, write(4, "yz"), is(1)})
		end(k, 2)
		playAll(t, "P11, "+how, k, turn{1, write(4, "x"), fails(api.ErrPipe)}, turn{1, write(4, ""), fails(api.ErrPipe)})
	}
}

func TestForkTakesTheLeastNumber(t *testing.T) {
	k := boot(t, loop(t))
	playAll(t, "P12", k,
		turn{1, fork(), is(2)}, turn{1, fork(), is(3)}, turn{3, fork(), is(4)}, turn{2, fork(), is(5)},
		turn{1, kill(3), done()}, turn{1, kill(2), done()}, turn{1, fork(), is(6)}, turn{1, wait(), both(2, 137)}, turn{1, wait(), both(3, 137)},
		turn{6, fork(), is(2)}, turn{5, fork(), is(3)}, turn{5, fork(), is(7)}, turn{1, kill(6), done()}, turn{1, wait(), both(6, 137)}, turn{7, fork(), is(6)}, turn{7, fork(), is(8)},
	)
	checkKin(t, "P12", k, kin{pid: 1}, kin{pid: 2, parent: 1}, kin{pid: 3, parent: 5}, kin{pid: 4, parent: 1}, kin{pid: 5, parent: 1}, kin{pid: 6, parent: 7}, kin{pid: 7, parent: 5}, kin{pid: 8, parent: 7})
}

func TestLimitOfProcesses(t *testing.T) {
	for most := 1; most <= 16; most++ {
		k := bootLimited(t, withLimit(0, most))
		for pid := 2; pid <= most; pid++ {
			playAll(t, "P12", k, turn{pid - 1, fork(), is(pid)})
		}
		for pid := 1; pid <= most; pid++ {
			playAll(t, "P12", k, turn{pid, fork(), fails(api.ErrProcs)})
		}
		if u := k.Used(); u.Procs != most || u.Frames != 3*most {
			t.Errorf("P16: used %+v", u)
		}
		if most == 1 {
			continue
		}
		playAll(t, "P12: a zombie is one", k,
			turn{most, exit(3), done()}, turn{1, fork(), fails(api.ErrProcs)},
			turn{most - 1, wait(), both(most, 3)}, turn{1, fork(), is(most)}, turn{1, fork(), fails(api.ErrProcs)},
		)
	}
}

func TestForkFrames(t *testing.T) {
	for frames := 3; frames <= 13; frames++ {
		k := bootLimited(t, withLimit(1, frames))
		count := 1
		for ; 3*(count+1) <= frames; count++ {
			playAll(t, "P12", k, turn{count, fork(), is(count + 1)})
		}
		playAll(t, "P12", k, turn{count, fork(), fails(api.ErrMemory)}, turn{1, fork(), fails(api.ErrMemory)})
		if u := k.Used(); u.Procs != count || u.Frames != 3*count {
			t.Errorf("P16: used %+v of %d frames", u, frames)
		}
		if count > 1 {
			playAll(t, "P12: a zombie has no pages", k, turn{1, kill(count), done()}, turn{1, fork(), is(count + 1)}, turn{1, fork(), fails(api.ErrMemory)})
		}
	}
	k := bootLimited(t, withLimit(1, 12))
	playAll(t, "P12: as many frames as the process has pages", k,
		turn{1, fork(), is(2)}, turn{2, brk(1), is(0x200)}, turn{2, fork(), is(3)}, turn{1, fork(), fails(api.ErrMemory)}, turn{2, kill(3), done()},
		turn{1, brk(2), is(0x200)}, turn{1, fork(), fails(api.ErrMemory)}, turn{2, fork(), fails(api.ErrMemory)}, turn{1, kill(2), done()}, turn{1, fork(), is(4)},
	)
}

func TestForkErrorsInOrder(t *testing.T) {
	for most := 1; most <= 3; most++ {
		l := room()
		l.Procs, l.Frames = most, 3*most
		k := bootLimited(t, l)
		for pid := 2; pid <= most; pid++ {
			playAll(t, "P12", k, turn{1, fork(), is(pid)})
		}
		playAll(t, "P12: ErrProcs ahead of ErrMemory", k, turn{1, fork(), fails(api.ErrProcs)})
		if most > 1 {
			playAll(t, "P12: ErrProcs alone", k, turn{2, exit(0), done()}, turn{1, fork(), fails(api.ErrProcs)}, turn{1, wait(), both(2, 0)}, turn{1, brk(1), is(0x200)}, turn{1, fork(), fails(api.ErrMemory)})
		}
	}
}

func TestExitStatus(t *testing.T) {
	for _, x := range []struct{ a, status int }{
		{0, 0}, {1, 1}, {2, 2}, {127, 127}, {128, 128}, {137, 137}, {254, 254}, {255, 255}, {256, 0}, {257, 1}, {260, 4}, {511, 255}, {512, 0}, {1<<32 + 5, 5}, {math.MaxInt, 255}, {math.MaxInt - 255, 0},
		{-1, 255}, {-2, 254}, {-128, 128}, {-255, 1}, {-256, 0}, {-257, 255}, {-512, 0}, {-1<<32 - 7, 249}, {math.MinInt, 0}, {math.MinInt + 1, 1},
	} {
		k := boot(t, counter(t))
		playAll(t, "P12", k, turn{1, fork(), is(2)})
		steps(t, k, 2, 4)
		first, was := proc(t, k, 1), proc(t, k, 2)
		playAll(t, "P12", k, turn{2, exit(x.a), done()})
		checkProc(t, "P12", k, zombie(was, x.status))
		checkProc(t, "P12", k, first)
		playAll(t, "P7", k, turn{2, getpid(), fails(api.ErrState)}, turn{2, exit(1), fails(api.ErrState)}, turn{1, wait(), both(2, x.status)}, turn{2, getpid(), fails(api.ErrPid)}, turn{1, wait(), fails(api.ErrChild)})
		if u := k.Used(); u.Procs != 1 || u.Frames != 3 {
			t.Errorf("P16: used %+v", u)
		}
	}
}

func TestExitOfTheFirst(t *testing.T) {
	k := boot(t, loop(t))
	for _, a := range []int{0, 1, -1, 256, math.MinInt, math.MaxInt} {
		playAll(t, "P12", k, turn{1, exit(a), fails(api.ErrPid)})
	}
	playAll(t, "P12", k, turn{1, fork(), is(2)}, turn{1, exit(0), fails(api.ErrPid)}, turn{2, exit(0), done()}, turn{1, exit(0), fails(api.ErrPid)})
}

// TestExitCloses: what a process had alone is free, what it shared is not.
func TestExitCloses(t *testing.T) {
	for _, how := range []turn{{3, exit(0), done()}, {1, kill(3), done()}, {2, kill(3), done()}, {3, kill(3), done()}} {
		k := bootLimited(t, room(), file("/shared", "123"), file("/own", "4567"))
		playAll(t, "P12", k,
			turn{1, fork(), is(2)}, turn{2, open("/shared", 0), is(3)}, turn{2, fork(), is(3)},
			turn{3, open("/own", 0), is(4)}, turn{3, dup(4), is(5)}, turn{3, pipe(), both(6, 7)}, turn{3, unlink("/own"), done()}, turn{3, unlink("/shared"), done()},
		)
		checkUsed(t, k, 4, 2, 7)
		playAll(t, "P12", k, how)
		checkUsed(t, k, 1, 1, 3)
		playAll(t, "P12", k, turn{2, read(3, 9), gives("123")}, turn{2, wait(), both(3, map[api.Kind]int{api.Exit: 0, api.Kill: 137}[how.call.Kind])}, turn{2, exit(1), done()})
		checkUsed(t, k, 0, 0, 0)
	}
}

func TestChildrenOfOneThatEnds(t *testing.T) {
	for _, x := range []struct {
		how    turn
		status int
	}{{turn{2, exit(-3), done()}, 253}, {turn{1, kill(2), done()}, 137}, {turn{6, kill(2), done()}, 137}, {turn{2, kill(2), done()}, 137}} {
		k := boot(t, loop(t))
		playAll(t, "P12", k,
			turn{1, fork(), is(2)}, turn{1, fork(), is(3)}, turn{2, fork(), is(4)}, turn{2, fork(), is(5)}, turn{4, fork(), is(6)}, turn{3, fork(), is(7)}, turn{2, fork(), is(8)},
			turn{5, exit(9), done()}, turn{8, sleep(4), done()},
		)
		k.Tick()
		checkKin(t, "P12", k, kin{pid: 1}, kin{pid: 2, parent: 1}, kin{pid: 3, parent: 1}, kin{pid: 4, parent: 2}, kin{5, 2, api.Zombie, 9, 0}, kin{pid: 6, parent: 4}, kin{pid: 7, parent: 3}, kin{8, 2, api.Sleeping, 0, 3})
		playAll(t, "P12", k, x.how)
		checkKin(t, "P12", k, kin{pid: 1}, kin{2, 1, api.Zombie, x.status, 0}, kin{pid: 3, parent: 1}, kin{pid: 4, parent: 1}, kin{5, 1, api.Zombie, 9, 0}, kin{pid: 6, parent: 4}, kin{pid: 7, parent: 3}, kin{8, 1, api.Sleeping, 0, 3})
		playAll(t, "P12", k,
			turn{1, wait(), both(2, x.status)}, turn{1, wait(), both(5, 9)}, turn{1, wait(), fails(api.ErrAgain)}, turn{4, wait(), fails(api.ErrAgain)},
			turn{6, kill(4), done()}, turn{6, wait(), fails(api.ErrChild)}, turn{1, wait(), both(4, 137)}, turn{1, kill(8), done()}, turn{1, wait(), both(8, 137)},
		)
		checkKin(t, "P12", k, kin{pid: 1}, kin{pid: 3, parent: 1}, kin{pid: 6, parent: 1}, kin{pid: 7, parent: 3})
		playAll(t, "P12", k, turn{6, fork(), is(2)}, turn{2, wait(), fails(api.ErrChild)}, turn{3, wait(), fails(api.ErrAgain)}, turn{7, exit(1), done()}, turn{6, wait(), fails(api.ErrAgain)}, turn{3, wait(), both(7, 1)})
	}
}

func TestKillOfNone(t *testing.T) {
	k := boot(t, loop(t))
	playAll(t, "P12", k, turn{1, fork(), is(2)}, turn{1, fork(), is(3)}, turn{3, exit(0), done()})
	for _, pid := range []int{0, -1, 1, 3, 4, 15, 16, 17, 256, 257, 258, -2, 1 << 32, 1<<32 + 2, math.MinInt, math.MinInt + 2, math.MaxInt} {
		playAll(t, "P12", k, turn{1, kill(pid), fails(api.ErrPid)}, turn{2, kill(pid), fails(api.ErrPid)})
	}
	playAll(t, "P12", k, turn{1, kill(2), done()}, turn{1, kill(2), fails(api.ErrPid)}, turn{1, wait(), both(2, 137)}, turn{1, kill(2), fails(api.ErrPid)}, turn{1, wait(), both(3, 0)}, turn{1, kill(3), fails(api.ErrPid)})
}

func TestKill(t *testing.T) {
	for _, by := range []int{1, 2, 3, 4, 5} { // its parent's parent, its parent, itself, its child, one that is none of these
		k := boot(t, counter(t))
		playAll(t, "P12", k, turn{1, fork(), is(2)}, turn{2, fork(), is(3)}, turn{3, fork(), is(4)}, turn{1, fork(), is(5)})
		steps(t, k, 3, 5)
		was := proc(t, k, 3)
		playAll(t, "P12", k, turn{by, kill(3), done()})
		checkProc(t, "P12", k, zombie(was, 137))
		checkKin(t, "P12", k, kin{pid: 1}, kin{pid: 2, parent: 1}, kin{3, 2, api.Zombie, 137, 0}, kin{pid: 4, parent: 1}, kin{pid: 5, parent: 1})
		playAll(t, "P12", k, turn{1, wait(), fails(api.ErrAgain)}, turn{2, wait(), both(3, 137)}, turn{2, wait(), fails(api.ErrChild)})
	}
}

func TestWaitTakesTheLeast(t *testing.T) {
	k := boot(t, loop(t))
	playAll(t, "P12", k, turn{1, wait(), fails(api.ErrChild)})
	for pid := 2; pid <= 9; pid++ {
		playAll(t, "P12", k, turn{1, fork(), is(pid)})
	}
	playAll(t, "P12", k, turn{1, wait(), fails(api.ErrAgain)}, turn{9, fork(), is(10)}, turn{10, exit(10), done()}, turn{1, wait(), fails(api.ErrAgain)})
	for _, pid := range []int{7, 3, 9, 4} {
		playAll(t, "P12", k, turn{pid, exit(pid), done()})
	}
	playAll(t, "P12", k,
		turn{2, wait(), fails(api.ErrChild)}, turn{1, wait(), both(3, 3)}, turn{1, wait(), both(4, 4)}, turn{2, exit(256), done()},
		turn{1, wait(), both(2, 0)}, turn{1, wait(), both(7, 7)}, turn{1, wait(), both(9, 9)}, turn{1, wait(), both(10, 10)}, turn{1, wait(), fails(api.ErrAgain)},
	)
	checkKin(t, "P12", k, kin{pid: 1}, kin{pid: 5, parent: 1}, kin{pid: 6, parent: 1}, kin{pid: 8, parent: 1})
}

// TestWaitTakesZombiesAlone: the least child may go on while a later one is waited for.
func TestWaitTakesZombiesAlone(t *testing.T) {
	k := boot(t, wrong())
	playAll(t, "P12", k, turn{1, fork(), is(2)}, turn{1, fork(), is(3)}, turn{1, fork(), is(4)}, turn{2, sleep(2), done()})
	steps(t, k, 4, 1)
	before := tellAll(k)
	playAll(t, "P12", k, turn{1, wait(), both(4, 130)}, turn{1, wait(), fails(api.ErrAgain)})
	if got := tellAll(k); !sameProcs(got.procs, before.procs[:3]) {
		t.Errorf("P12: Wait changed another process")
	}
}

// TestTheFirstMayEnd: by a trap alone; its children go on, and nobody waits for them.
func TestTheFirstMayEnd(t *testing.T) {
	k := boot(t, wrong())
	playAll(t, "P12", k, turn{1, fork(), is(2)}, turn{2, fork(), is(3)}, turn{1, fork(), is(4)}, turn{4, exit(3), done()})
	steps(t, k, 1, 1)
	checkKin(t, "P18", k, kin{1, 0, api.Zombie, 130, 0}, kin{pid: 2, parent: 1}, kin{pid: 3, parent: 2}, kin{4, 1, api.Zombie, 3, 0})
	playAll(t, "P12", k,
		turn{2, kill(1), fails(api.ErrPid)}, turn{2, wait(), fails(api.ErrAgain)}, turn{1, wait(), fails(api.ErrState)}, turn{2, exit(7), done()},
		turn{3, wait(), fails(api.ErrChild)}, turn{3, fork(), is(5)}, turn{3, kill(4), fails(api.ErrPid)},
	)
	checkKin(t, "P18", k, kin{1, 0, api.Zombie, 130, 0}, kin{2, 1, api.Zombie, 7, 0}, kin{pid: 3, parent: 1}, kin{4, 1, api.Zombie, 3, 0}, kin{pid: 5, parent: 3})
	steps(t, k, 3, 1)
	steps(t, k, 5, 1)
	k.Tick()
	checkKin(t, "P18", k, kin{1, 0, api.Zombie, 130, 0}, kin{2, 1, api.Zombie, 7, 0}, kin{3, 1, api.Zombie, 130, 0}, kin{4, 1, api.Zombie, 3, 0}, kin{5, 1, api.Zombie, 130, 0})
	for pid := 1; pid <= 5; pid++ {
		playAll(t, "P7", k, turn{pid, fork(), fails(api.ErrState)})
	}
}

// TestTrapOfAChild: traps have their status told by Wait.
func TestTrapOfAChild(t *testing.T) {
	for _, x := range []struct {
		status int
		code   []byte
	}{
		{129, instrs(t, api.Instr{Op: api.Jr, A: 2})},
		{130, []byte{1, 0, 0, 0, 0, 0, 0, 0}},
		{131, instrs(t, api.Instr{Op: api.Li, A: 1}, api.Instr{Op: api.Ld, A: 1, B: 2})},
	} {
		k := boot(t, program(0x100, seg{perm: 5, addr: 0x100, data: x.code}))
		playAll(t, "P12", k, turn{1, fork(), is(2)}, turn{2, fork(), is(3)})
		steps(t, k, 2, 1)
		was, first := proc(t, k, 2), proc(t, k, 1)
		steps(t, k, 2, 1)
		checkProc(t, "P18", k, zombie(was, x.status))
		checkProc(t, "P18", k, first)
		if p := proc(t, k, 3); p.Parent != 1 || p.State != api.Ready {
			t.Errorf("P18: the child of one that trapped: %s", brief(p))
		}
		playAll(t, "P12", k, turn{1, wait(), both(2, x.status)}, turn{1, wait(), fails(api.ErrAgain)})
	}
}
