package tinyos_test

import (
	"math/rand/v2"
	"slices"
	"testing"

	"tinyos/api"
	"tinyos/tinyos"
)

const (
	textsAt  = 0x800 // where a program's texts are, 16 bytes each
	bufferAt = 0x900
)

// calling sets the registers 1, 2 and so on and does an Ecall; -1 leaves a register as it is.
func calling(regs ...int16) []api.Instr {
	var list []api.Instr
	for i, n := range regs {
		if n != -1 {
			list = append(list, api.Instr{Op: api.Li, A: i + 1, Imm: n})
		}
	}
	return append(list, api.Instr{Op: api.Ecall})
}

// forking forks, and has the child go on behind what its parent does, with which this ends at one place.
func forking(parent ...[]api.Instr) []api.Instr {
	does := append(slices.Concat(parent...), api.Instr{Op: api.Jal, A: 14})
	return slices.Concat(calling(int16(api.Fork)), []api.Instr{{Op: api.Beq, A: 1, B: 0, Imm: int16(4 + 4*len(does))}}, does)
}

func move(a, b int) []api.Instr { return []api.Instr{{Op: api.Move, A: a, B: b}} }

// withTexts is an executable of this code and these texts.
func withTexts(t *testing.T, code []api.Instr, texts ...string) []byte {
	t.Helper()
	data := make([]byte, 256)
	for i, s := range texts {
		copy(data[16*i:], s)
	}
	return program(0x100, seg{perm: 5, addr: 0x100, data: instrs(t, code...)}, seg{perm: 6, addr: textsAt, data: data, size: 512})
}

// byTurns has all processes that are ready do a step, and again, in an order that is chance's; time goes on too.
func byTurns(t *testing.T, r *rand.Rand, k *tinyos.Kernel, rounds int) {
	t.Helper()
	for n := range rounds {
		for _, i := range r.Perm(16) {
			isReady := func(p api.Proc) bool { return p.PID == i+1 && p.State == api.Ready }
			if slices.ContainsFunc(k.Procs(), isReady) {
				steps(t, k, i+1, 1)
			}
		}
		if n%5 == 0 {
			k.Tick()
		}
	}
}

// TestProgramOfAPipe has a child write to its parent, which tells the console.
func TestProgramOfAPipe(t *testing.T) {
	code := slices.Concat(
		calling(int16(api.Pipe)),
		forking(
			calling(int16(api.Close), 4),
			calling(int16(api.Read), 3, 16, -1, bufferAt),
			move(6, 1),
			calling(int16(api.Write), 1, -1, -1, bufferAt),
			calling(int16(api.Wait)),
			move(8, 1),
			move(9, 2),
		),
		calling(int16(api.Close), 3),
		calling(int16(api.Sleep), 2),
		calling(int16(api.Write), 4, -1, -1, textsAt, 5),
		calling(int16(api.Exit), 265),
	)
	for seed := range uint64(50) {
		k := boot(t, withTexts(t, code, "hello"))
		byTurns(t, rand.New(rand.NewPCG(11, seed)), k, 100)
		checkConsole(t, k, "hello")
		p := proc(t, k, 1)
		if p.Regs[8] != 2 || p.Regs[9] != 9 || p.Regs[1] != 2 || p.Regs[6] != 5 {
			t.Errorf("P19: seed %d: %s", seed, brief(p))
		}
		if u := k.Used(); u.Procs != 1 || u.Objects != 1 {
			t.Errorf("P16: seed %d: used %+v", seed, u)
		}
	}
}

// TestProgramOfMany has five children tell their numbers, and exit with them.
func TestProgramOfMany(t *testing.T) {
	fork := calling(int16(api.Fork))
	wait := calling(int16(api.Wait))
	code := []api.Instr{{Op: api.Li, A: 10, Imm: 5}}
	parent := slices.Concat(
		[]api.Instr{{Op: api.Addi, A: 10, B: 10, Imm: -1}, {Op: api.Bne, A: 10, B: 0, Imm: int16(-4 * (len(fork) + 2))}, {Op: api.Li, A: 10, Imm: 5}},
		wait,
		[]api.Instr{{Op: api.Add, A: 9, B: 2}, {Op: api.Addi, A: 10, B: 10, Imm: -1}, {Op: api.Bne, A: 10, B: 0, Imm: int16(-4 * (len(wait) + 2))}, {Op: api.Jal, A: 14}},
	)
	code = slices.Concat(code, fork, []api.Instr{{Op: api.Beq, A: 1, B: 0, Imm: int16(4 + 4*len(parent))}}, parent,
		calling(int16(api.Getpid)),
		move(11, 1),
		[]api.Instr{{Op: api.Li, A: 5, Imm: bufferAt}, {Op: api.Addi, A: 12, B: 1, Imm: '0'}, {Op: api.Stb, A: 12, B: 5}},
		calling(int16(api.Write), 1, -1, -1, bufferAt, 1),
		move(2, 11),
		calling(int16(api.Exit)),
	)
	for seed := range uint64(50) {
		k := boot(t, withTexts(t, code))
		r := rand.New(rand.NewPCG(12, seed))
		told := []byte{}
		for range 20 {
			byTurns(t, r, k, 10)
			told = append(told, k.Console()...)
		}
		p := proc(t, k, 1)
		sum := uint64(0)
		for _, b := range told {
			sum += uint64(b - '0')
		}
		if len(told) != 5 || p.Regs[9] != sum || p.Regs[10] != 0 || len(k.Procs()) != 1 {
			t.Errorf("P19: seed %d: %q was told, %s", seed, told, brief(p))
		}
	}
}

// TestProgramOfATree has a parent write its child to an image, kill it, and have it be there again.
func TestProgramOfATree(t *testing.T) {
	code := slices.Concat(
		forking(
			calling(int16(api.Checkpoint), 2, -1, textsAt),
			move(7, 1),
			calling(int16(api.Kill), 2),
			calling(int16(api.Wait)),
			move(8, 2),
			calling(int16(api.Restore), -1, -1, textsAt),
			move(9, 1),
		),
		[]api.Instr{{Op: api.Addi, A: 10, B: 10, Imm: 1}, {Op: api.Jal, A: 11, Imm: -4}},
	)
	k := boot(t, withTexts(t, code, "/i"))
	steps(t, k, 1, 2)
	steps(t, k, 2, 20)
	child := proc(t, k, 2)
	steps(t, k, 1, 21)
	p := proc(t, k, 1)
	if p.Regs[7] != 1 || p.Regs[8] != 137 || p.Regs[9] != 2 || p.State != api.Ready {
		t.Errorf("P19: %s", brief(p))
	}
	checkProc(t, "P17", k, child)
	steps(t, k, 2, 2)
	if got := proc(t, k, 2).Regs[10]; got != child.Regs[10]+1 {
		t.Errorf("P17: a child goes on with %d, want %d", got, child.Regs[10]+1)
	}
	if f := k.Files(); len(f) != 2 || f[0].Path != "/i" {
		t.Errorf("P17: %d files", len(f))
	}
}

// echo is an executable that writes its second argument to the console, and exits with how many bytes it has.
func echo(t *testing.T) []byte {
	t.Helper()
	return withTexts(t, slices.Concat(
		[]api.Instr{
			{Op: api.Ld, A: 5, B: 15, Imm: 16}, {Op: api.Move, A: 7, B: 5},
			{Op: api.Ldb, A: 9, B: 7}, {Op: api.Beq, A: 9, B: 0, Imm: 12}, {Op: api.Addi, A: 7, B: 7, Imm: 1}, {Op: api.Jal, A: 10, Imm: -12},
			{Op: api.Move, A: 6, B: 7}, {Op: api.Sub, A: 6, B: 5},
		},
		calling(int16(api.Write), 1),
		move(2, 6),
		calling(int16(api.Exit)),
	))
}

// TestProgramOfExec has a child execute another file, with arguments.
func TestProgramOfExec(t *testing.T) {
	list := []api.Instr{{Op: api.Li, A: 5, Imm: bufferAt}, {Op: api.Li, A: 7, Imm: textsAt}, {Op: api.St, A: 7, B: 5}, {Op: api.Li, A: 7, Imm: textsAt + 16}, {Op: api.St, A: 7, B: 5, Imm: 8}}
	code := slices.Concat(
		forking(calling(int16(api.Wait)), move(8, 1), move(9, 2)),
		list,
		calling(int16(api.Exec), -1, -1, textsAt),
		calling(int16(api.Exit), 99), // not reached
	)
	k := boot(t, withTexts(t, code, "/echo", "some text"), api.File{Path: "/echo", Bytes: echo(t)})
	byTurns(t, rand.New(rand.NewPCG(13, 14)), k, 120)
	checkConsole(t, k, "some text")
	if p := proc(t, k, 1); p.Regs[8] != 2 || p.Regs[9] != 9 {
		t.Errorf("P19: %s", brief(p))
	}
}

// TestProgramThatGoesOnByErrors has calls fail one behind the other: each goes on to the next.
func TestProgramThatGoesOnByErrors(t *testing.T) {
	var code []api.Instr
	wants := []int64{}
	for _, x := range []struct {
		regs []int16
		want int64
	}{
		{[]int16{0}, -23}, {[]int16{int16(api.Exit), 5}, -18}, {[]int16{int16(api.Wait)}, -17}, {[]int16{int16(api.Exec), 0, 0, textsAt, bufferAt}, -9}, {[]int16{int16(api.Close), 7}, -13},
		{[]int16{int16(api.Write), 1, 0, 0, 0x600, 1}, -7}, {[]int16{int16(api.Sleep), -2}, -6}, {[]int16{int16(api.Open), 1, 0, bufferAt}, -8}, {[]int16{int16(api.Getpid)}, 1},
	} {
		code = append(code, calling(x.regs...)...)
		code = append(code, api.Instr{Op: api.Move, A: 15, B: 1})
		wants = append(wants, x.want)
	}
	k := boot(t, withTexts(t, code, "/none"))
	for _, want := range wants {
		for op := api.Li; op != api.Move; {
			p := proc(t, k, 1)
			i, _ := fetched(&p)
			steps(t, k, 1, 1)
			if proc(t, k, 1).PC == p.PC {
				t.Fatalf("P19: PC stays with %d", int64(p.Regs[1]))
			}
			op = i.Op
		}
		if got := int64(proc(t, k, 1).Regs[15]); got != want {
			t.Fatalf("P19: register 1 is %d, want %d", got, want)
		}
	}
}

// anyCalling is an Ecall of any kind, with numbers that are often right.
func anyCalling(r *rand.Rand) []api.Instr {
	kind := int16(1 + r.IntN(21))
	switch r.IntN(8) {
	case 0:
		kind = int16(r.IntN(24) - 1)
	case 1:
		kind = int16(api.Fork)
	}
	regs := []int16{kind, int16(r.IntN(8)), int16(r.IntN(8)), int16(textsAt + 16*r.IntN(6)), int16(bufferAt + 16*r.IntN(4)), int16(r.IntN(8))}
	if r.IntN(6) == 0 {
		regs[1+r.IntN(5)] = anyOf[int16](r, -1, -2, 0, 0x100, 0x7ff, 0x900, 0x9fc, 0xa00, 0x1000, 0x1001, 0x7fff)
	}
	return calling(regs...)
}

// TestProgramOfAnything has all processes of programs made by chance do their steps by turns, and holds them against the model.
func TestProgramOfAnything(t *testing.T) {
	ecalls := counts{}
	for seed := range uint64(250) {
		r := rand.New(rand.NewPCG(15, seed))
		var code []api.Instr
		for range 30 {
			code = append(code, anyCalling(r)...)
		}
		code = append(code, api.Instr{Op: api.Jal, A: 14, Imm: int16(-4 * len(code))})
		l := api.Limits{Procs: 2 + r.IntN(5), Frames: 20 + r.IntN(60), Objects: 4 + r.IntN(8), Inodes: 4 + r.IntN(6), Bytes: 20000 + r.IntN(20000)}
		files := []api.File{{Path: "/init", Bytes: withTexts(t, code, "/init", "/a", "/b", "/", "/i", "x")}, file("/b", "some text")}
		k, err := tinyos.Boot(l, files)
		if err != nil {
			t.Fatalf("P6: Boot: %v", err)
		}
		m := newModel(l, k.Files(), proc(t, k, 1))
		m.ecalls = ecalls
		for n := range 100 {
			for pid := 1; pid <= l.Procs; pid++ {
				for range r.IntN(8) {
					m.stepBoth(t, k, pid)
				}
			}
			if got, want := tellAll(k), m.whole(); !got.same(want) {
				t.Fatalf("P19: seed %d, round %d: used %+v, want %+v; processes\n%s\nwant\n%s", seed, n, got.used, want.used, briefAll(got.procs), briefAll(want.procs))
			}
			k.Tick()
			m.tick()
			typeIn(t, k, "typed")
			m.typed = append(m.typed, "typed"...)
			checkConsole(t, k, string(m.written))
			m.written = nil
		}
	}
	want := map[api.Kind][]api.Errno{0: {api.ErrCall}, api.Wait: {api.OK, api.ErrAgain, api.ErrChild}, api.Exec: {api.OK, api.ErrMemory, api.ErrMissing}}
	for kind := api.Fork; kind <= api.Checkpoint; kind++ {
		want[kind] = append(want[kind], api.OK)
	}
	ecalls.check(t, "an Ecall", want)
}

// TestTreeThatWaits writes a process to an image whose call is not answered yet: it makes the call again.
func TestTreeThatWaits(t *testing.T) {
	regs, segs := laid(read(0, 9))
	k := atEcall(t, regs, segs, turn{1, fork(), is(2)})
	checkStill(t, "a Read", k, 2)
	child := proc(t, k, 2)
	playAll(t, "P17", k, turn{1, checkpoint(2, "/i"), is(1)}, turn{1, kill(2), done()}, turn{1, wait(), both(2, 137)}, turn{1, restore("/i"), is(2)})
	checkProc(t, "P17", k, child)
	checkStill(t, "a Read", k, 2)
	typeIn(t, k, "abc")
	checkEcall(t, "a Read", k, 2, read(0, 9), gives("abc"), tellAll(k))
}
