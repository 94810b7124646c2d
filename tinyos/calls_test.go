package tinyos_test

import (
	"bytes"
	"errors"
	"fmt"
	"math"
	"slices"
	"strings"
	"testing"

	"tinyos/api"
	"tinyos/tinyos"
)

func fork() api.Call                   { return api.Call{Kind: api.Fork} }
func exit(a int) api.Call              { return api.Call{Kind: api.Exit, A: a} }
func wait() api.Call                   { return api.Call{Kind: api.Wait} }
func kill(pid int) api.Call            { return api.Call{Kind: api.Kill, A: pid} }
func sleep(ticks int) api.Call         { return api.Call{Kind: api.Sleep, A: ticks} }
func getpid() api.Call                 { return api.Call{Kind: api.Getpid} }
func open(path string, a int) api.Call { return api.Call{Kind: api.Open, S: path, A: a} }
func shut(fd int) api.Call             { return api.Call{Kind: api.Close, A: fd} }
func read(fd, most int) api.Call       { return api.Call{Kind: api.Read, A: fd, B: most} }
func write(fd int, d string) api.Call  { return api.Call{Kind: api.Write, A: fd, D: []byte(d)} }
func seek(fd, offset int) api.Call     { return api.Call{Kind: api.Seek, A: fd, B: offset} }
func dup(fd int) api.Call              { return api.Call{Kind: api.Dup, A: fd} }
func pipe() api.Call                   { return api.Call{Kind: api.Pipe} }
func unlink(path string) api.Call      { return api.Call{Kind: api.Unlink, S: path} }
func mkdir(path string) api.Call       { return api.Call{Kind: api.Mkdir, S: path} }
func brk(pages int) api.Call           { return api.Call{Kind: api.Brk, A: pages} }
func peek(addr, count int) api.Call    { return api.Call{Kind: api.Peek, A: addr, B: count} }
func poke(addr int, d string) api.Call { return api.Call{Kind: api.Poke, A: addr, D: []byte(d)} }

func exec(path string, args ...string) api.Call {
	return api.Call{Kind: api.Exec, S: path, L: args}
}

// answer is what a call answers, all of it.
type answer struct {
	n, m int
	d    string
	err  api.Errno
}

func done() answer               { return answer{} }
func is(n int) answer            { return answer{n: n} }
func both(n, m int) answer       { return answer{n: n, m: m} }
func gives(d string) answer      { return answer{n: len(d), d: d} }
func fails(err api.Errno) answer { return answer{err: err} }

// line is a call of process 1, and what it is to answer.
type line struct {
	call api.Call
	want answer
}

// turn is a call of any process, and what it is to answer.
type turn struct {
	pid  int
	call api.Call
	want answer
}

// ask makes a call, and then writes into all that was handed in and all that came out.
func ask(t *testing.T, k *tinyos.Kernel, pid int, c api.Call) answer {
	t.Helper()
	const spare = "spare room"
	d := append(slices.Clone(c.D), spare...)
	l := append(slices.Clone(c.L), spare)
	wantD, wantL := slices.Clone(d), slices.Clone(l)
	if c.D != nil {
		c.D = d[:len(c.D)]
	}
	if c.L != nil {
		c.L = l[:len(c.L)]
	}
	r, err := k.Do(pid, c)
	if !bytes.Equal(d, wantD) || !slices.Equal(l, wantL) {
		t.Fatalf("P2: call %s wrote into what was handed in", short(c))
	}
	checkError(t, pid, err)
	a := answer{r.N, r.M, string(r.D), api.Tell(err)}
	overwrite(d, 0xee)
	overwrite(l, "else")
	overwrite(r.D, 0xdd)
	return a
}

// checkError asks for an error of the kinds that the document names.
func checkError(t *testing.T, pid int, err error) {
	t.Helper()
	var c *api.CallError
	switch e := err.(type) {
	case nil:
	case api.Errno, *api.CallError:
		if errors.As(err, &c) && c.PID != pid {
			t.Fatalf("an error of process %d: %v", pid, err)
		}
	default:
		t.Fatalf("an error %T: %v", e, err)
	}
}

// short tells a call, of many bytes only how many.
func short(c api.Call) string {
	if len(c.D) > 80 {
		return fmt.Sprintf("%d with A %d and %d bytes", c.Kind, c.A, len(c.D))
	}
	return fmt.Sprintf("%d with A %d, B %d, S %.80q, L %.40q, D %q", c.Kind, c.A, c.B, c.S, c.L, c.D)
}

// try makes a call, and asks for no change where there is an error.
func try(t *testing.T, promise string, k *tinyos.Kernel, x turn) {
	t.Helper()
	before := tellAll(k)
	got := ask(t, k, x.pid, x.call)
	if got != x.want {
		t.Fatalf("%s: process %d, call %s: %+.100v, want %+.100v", promise, x.pid, short(x.call), got, x.want)
	}
	if x.want.err != api.OK && !tellAll(k).same(before) {
		t.Fatalf("P1: process %d, call %s: something changed with the error %d", x.pid, short(x.call), x.want.err)
	}
}

func play(t *testing.T, promise string, k *tinyos.Kernel, lines ...line) {
	t.Helper()
	for _, x := range lines {
		try(t, promise, k, turn{1, x.call, x.want})
	}
}

// playAll is play, of several processes.
func playAll(t *testing.T, promise string, k *tinyos.Kernel, turns ...turn) {
	t.Helper()
	for _, x := range turns {
		try(t, promise, k, x)
	}
}

// bootLimited boots a kernel with these limits, whose /init goes on at one place.
func bootLimited(t *testing.T, l api.Limits, files ...api.File) *tinyos.Kernel {
	t.Helper()
	k, err := tinyos.Boot(l, append([]api.File{{Path: "/init", Bytes: loop(t)}}, files...))
	if err != nil || k == nil {
		t.Fatalf("P6: Boot: %v", err)
	}
	return k
}

// checkUsed asks for so many objects, inodes beside the root and /init, and bytes beside those of /init.
func checkUsed(t *testing.T, k *tinyos.Kernel, objects, inodes, count int) {
	t.Helper()
	got := k.Used()
	want := api.Limits{Procs: got.Procs, Frames: got.Frames, Objects: objects, Inodes: inodes + 2, Bytes: count + len(loop(t))}
	if got != want {
		t.Fatalf("P16: used %+v, want %+v", got, want)
	}
}

// checkFds asks for process 1 having these descriptors.
func checkFds(t *testing.T, k *tinyos.Kernel, want ...api.Fd) {
	t.Helper()
	if got := k.Procs()[0].Fds; !slices.Equal(got, want) {
		t.Fatalf("P7: descriptors %+v, want %+v", got, want)
	}
}

// consoles are the descriptors that a process begins with.
func consoles(more ...api.Fd) []api.Fd {
	return append([]api.Fd{{Number: 0, Kind: api.ConsoleFd}, {Number: 1, Kind: api.ConsoleFd}, {Number: 2, Kind: api.ConsoleFd}}, more...)
}

// trapped is a kernel whose process 1 had some descriptors and is a zombie.
func trapped(t *testing.T, lines ...line) *tinyos.Kernel {
	t.Helper()
	k := boot(t, program(0x100, seg{perm: 5, addr: 0x100, data: []byte{0, 0, 0, 0}}))
	play(t, "P7", k, lines...)
	if err := k.Step(1); err != nil {
		t.Fatalf("P18: Step: %v", err)
	}
	if p := k.Procs()[0]; p.State != api.Zombie {
		t.Fatalf("P18: a process after a trap: %s", brief(p))
	}
	return k
}

// sundryCalls is a call of each kind, and of kinds that are none.
func sundryCalls() []api.Call {
	var calls []api.Call
	for kind := api.Kind(-2); kind <= api.Restore+3; kind++ {
		calls = append(calls, api.Call{Kind: kind, A: 1, B: 1, S: "/a", L: []string{"a"}, D: []byte("a")})
	}
	return append(calls, api.Call{}, api.Call{Kind: math.MinInt}, api.Call{Kind: math.MaxInt}, api.Call{Kind: 1 << 32}, api.Call{Kind: 1<<32 + api.Getpid})
}

func TestDoOfNoProcess(t *testing.T) {
	for _, k := range []*tinyos.Kernel{boot(t, loop(t)), trapped(t)} {
		before := tellAll(k)
		for _, pid := range []int{0, 2, -1, 3, 15, 16, 17, 1 << 32, 1<<32 + 1, math.MinInt, math.MaxInt} {
			for _, c := range sundryCalls() {
				if got := ask(t, k, pid, c); got != fails(api.ErrPid) {
					t.Fatalf("P7: Do(%d), call %s: %+v, want ErrPid", pid, short(c), got)
				}
			}
		}
		if !tellAll(k).same(before) {
			t.Error("P1: something changed with ErrPid")
		}
	}
}

func TestDoOfAZombie(t *testing.T) {
	k := trapped(t, line{open("/a", 1), is(3)})
	for _, c := range sundryCalls() {
		play(t, "P7", k, line{c, fails(api.ErrState)})
	}
}

func TestDoNoCall(t *testing.T) {
	k := boot(t, loop(t))
	for _, kind := range []api.Kind{0, -1, -7, api.Restore + 1, api.Restore + 2, 99, 1000, 1 << 32, 1<<32 + api.Getpid, math.MinInt, math.MaxInt} {
		play(t, "P7", k, line{api.Call{Kind: kind, A: 1, B: 1, S: "/a", D: []byte("a")}, fails(api.ErrCall)})
	}
	if got := k.Console(); len(got) != 0 {
		t.Errorf("P7: no call wrote %q", got)
	}
}

func TestGetpid(t *testing.T) {
	k := boot(t, loop(t))
	before := tellAll(k)
	play(t, "P7", k,
		line{getpid(), is(1)},
		line{api.Call{Kind: api.Getpid, A: -9, B: 9, S: "x", L: []string{"y"}, D: []byte("z")}, is(1)},
	)
	if !tellAll(k).same(before) {
		t.Error("P7: Getpid changed something")
	}
}

func TestProcsTellsDescriptors(t *testing.T) {
	k := boot(t, loop(t))
	checkFds(t, k, consoles()...)
	play(t, "P7", k,
		line{open("/a", 1), is(3)},
		line{write(3, "abc"), is(3)},
		line{pipe(), both(4, 5)},
		line{dup(3), is(6)},
		line{shut(1), done()},
		line{write(5, "xy"), is(2)},
	)
	checkFds(t, k,
		api.Fd{Number: 0, Kind: api.ConsoleFd},
		api.Fd{Number: 2, Kind: api.ConsoleFd},
		api.Fd{Number: 3, Kind: api.FileFd, Offset: 3},
		api.Fd{Number: 4, Kind: api.ReadFd},
		api.Fd{Number: 5, Kind: api.WriteFd},
		api.Fd{Number: 6, Kind: api.FileFd, Offset: 3},
	)
	play(t, "P7", k,
		line{dup(4), is(1)},
		line{seek(6, 65536), done()},
		line{shut(0), done()},
		line{shut(2), done()},
		line{shut(5), done()},
	)
	checkFds(t, k,
		api.Fd{Number: 1, Kind: api.ReadFd},
		api.Fd{Number: 3, Kind: api.FileFd, Offset: 65536},
		api.Fd{Number: 4, Kind: api.ReadFd},
		api.Fd{Number: 6, Kind: api.FileFd, Offset: 65536},
	)
	for _, fd := range []int{1, 3, 4, 6} {
		play(t, "P7", k, line{shut(fd), done()})
	}
	checkFds(t, k)
}

func TestCallsLeaveTheProcess(t *testing.T) {
	k := boot(t, loop(t))
	was := k.Procs()[0]
	play(t, "P7", k, line{open("/a", 3), is(3)}, line{write(3, "x"), is(1)}, line{pipe(), both(4, 5)}, line{mkdir("/d"), done()}, line{unlink("/d"), done()})
	now := k.Procs()[0]
	was.Fds = now.Fds
	if !sameProc(was, now) {
		t.Errorf("P7: calls by Do changed the process: %s, want %s", brief(now), brief(was))
	}
}

func TestATrapCloses(t *testing.T) {
	k := trapped(t,
		line{open("/kept", 1), is(3)},
		line{write(3, "kept"), is(4)},
		line{open("/gone", 1), is(4)},
		line{write(4, "gone"), is(4)},
		line{unlink("/gone"), done()},
		line{dup(4), is(5)},
		line{pipe(), both(6, 7)},
	)
	files := k.Files()
	if len(files) != 2 || files[1].Path != "/kept" || string(files[1].Bytes) != "kept" {
		t.Errorf("P18: files after a trap: %+v", files)
	}
	want := api.Limits{Procs: 1, Inodes: 3, Bytes: len(files[0].Bytes) + 4}
	if got := k.Used(); got != want {
		t.Errorf("P18: used after a trap %+v, want %+v", got, want)
	}
}

func TestDocumentsScript(t *testing.T) {
	l := api.Limits{Procs: 6, Frames: 40, Objects: 10, Inodes: 12, Bytes: 30000}
	play(t, "P9, P11", bootLimited(t, l, dir("/d"), file("/text", "some text")),
		line{open("/a", 0), fails(api.ErrMissing)},
		line{open("/a", 1), is(3)},
		line{write(3, "hello"), is(5)},
		line{read(3, 9), gives("")},
		line{seek(3, 1), done()},
		line{read(3, 2), gives("el")},
		line{open("/a", 2), is(4)},
		line{write(3, "x"), is(1)},
		line{read(4, 9), gives("\x00\x00\x00x")},
		line{open("/b/c", 1), fails(api.ErrMissing)},
		line{open("/text/c", 1), fails(api.ErrDir)},
		line{open("/", 1), fails(api.ErrDir)},
		line{open("a", 0), fails(api.ErrPath)},
		line{pipe(), both(5, 6)},
		line{read(5, 1), fails(api.ErrAgain)},
		line{write(6, "abc"), is(3)},
		line{read(5, 2), gives("ab")},
		line{shut(6), done()},
		line{read(5, 9), gives("c")},
		line{read(5, 9), gives("")},
		line{shut(3), done()},
		line{shut(4), done()},
		line{shut(5), done()},
	)
}

func TestDocumentsProcesses(t *testing.T) {
	l := api.Limits{Procs: 6, Frames: 40, Objects: 10, Inodes: 12, Bytes: 30000}
	playAll(t, "P12, P13", bootLimited(t, l, dir("/d"), file("/text", "some text")),
		turn{1, wait(), fails(api.ErrChild)},
		turn{1, fork(), is(2)},
		turn{1, wait(), fails(api.ErrAgain)},
		turn{2, exit(260), done()},
		turn{1, wait(), both(2, 4)},
		turn{1, kill(1), fails(api.ErrPid)},
		turn{1, kill(9), fails(api.ErrPid)},
		turn{1, sleep(-1), fails(api.ErrArgs)},
	)
}

// TestAnyNumbers makes calls with numbers at all edges; only that they end, and what P1 and P2 say, is asked.
func TestAnyNumbers(t *testing.T) {
	numbers := []int{math.MinInt, math.MinInt + 1, -1 << 32, -4097, -65, -1, 0, 1, 2, 3, 4, 5, 6, 7, 8, 9, 63, 64, 65, 255, 256, 4095, 4096, 4097, 65535, 65536, 65537, 1 << 32, 1<<32 + 3, math.MaxInt - 1, math.MaxInt}
	texts := []string{"", "/", "/a", "/init", "a", "/d/x", "//", "/\x00", "/\xff", strings.Repeat("/a", 30), strings.Repeat("x", 5000)}
	for kind := api.Fork; kind <= api.Restore; kind++ {
		k := busy(t)
		for i, a := range numbers {
			for n, s := range texts {
				l := slices.Repeat([]string{texts[(i+n)%len(texts)]}, n)
				k = anyCall(t, k, api.Call{Kind: kind, A: a, S: s, L: l})
			}
			for _, b := range numbers {
				k = anyCall(t, k, api.Call{Kind: kind, A: a, B: b, S: texts[i%len(texts)]})
			}
			for _, size := range []int{0, 1, 63, 64, 65, 4095, 4096, 4097, 100000} {
				k = anyCall(t, k, api.Call{Kind: kind, A: a, D: make([]byte, size)})
			}
		}
	}
}

// busy is a kernel with several processes.
func busy(t *testing.T) *tinyos.Kernel {
	t.Helper()
	k := boot(t, loop(t), dir("/d"), file("/a", "some text"))
	playAll(t, "P12", k, turn{1, fork(), is(2)}, turn{2, fork(), is(3)}, turn{1, fork(), is(4)}, turn{4, exit(7), done()}, turn{1, fork(), is(5)}, turn{5, sleep(9), done()})
	return k
}

// anyCall asks that with an error nothing changed and every other result is 0. It answers the kernel for the next one: another one, if processes changed.
func anyCall(t *testing.T, k *tinyos.Kernel, c api.Call) *tinyos.Kernel {
	t.Helper()
	const pid = 2
	before, used := k.Procs(), k.Used()
	got := ask(t, k, pid, c)
	if got.err == api.OK {
		if c.Kind < api.Getpid || c.Kind > api.Mkdir {
			return busy(t)
		}
		for _, fd := range []int{7, 6} {
			ask(t, k, pid, shut(fd))
		}
		return k
	}
	if got != fails(got.err) {
		t.Fatalf("P1: call %s: %+v beside an error", short(c), got)
	}
	if k.Used() != used || !sameProcs(k.Procs(), before) {
		t.Fatalf("P1: call %s: something changed with the error %d", short(c), got.err)
	}
	return k
}
