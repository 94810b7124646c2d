package tinyos_test

import (
	"math"
	"slices"
	"strings"
	"testing"

	"tinyos/api"
	"tinyos/tinyos"
)

// prog is an executable of 5 pages: 1 to execute, 3 that have data, 1 that may be read alone.
func prog(t *testing.T) []byte {
	t.Helper()
	return program(0x104,
		seg{perm: 5, addr: 0x104, data: instrs(t, api.Instr{Op: api.Jal, A: 1})},
		seg{perm: 6, addr: 0x480, data: []byte("data"), size: 0x200},
		seg{perm: 4, addr: 0x9ff, data: []byte("!")},
	)
}

// paged is an executable of one page with this number.
func paged(number int) []byte {
	return program(uint64(256*number), seg{perm: 5, addr: uint64(256 * number), data: []byte{1}})
}

// sized is an executable of so many pages, from page 1 on.
func sized(pages int) []byte {
	return program(0x100, seg{perm: 5, addr: 0x100, data: []byte{1}, size: uint64(256 * pages)})
}

// executed is what becomes of a process that executes these bytes.
func executed(t *testing.T, p api.Proc, b []byte, args ...string) api.Proc {
	t.Helper()
	plan, err := tinyos.Load(b)
	if err != nil {
		t.Fatalf("P4: Load: %v", err)
	}
	stack, sp, err := tinyos.Stack(args)
	if err != nil {
		t.Fatalf("P5: Stack: %v", err)
	}
	p.PC = plan.Entry
	p.Regs = [16]uint64{15: sp}
	p.Pages = slices.Concat(plan.Pages, stack)
	return p
}

func TestExec(t *testing.T) {
	for _, args := range [][]string{nil, {}, {""}, {"one", "two"}, {"a", "", "b"}, slices.Repeat([]string{strings.Repeat("x", 30)}, 8), {"\xff\x01/"}} {
		k := boot(t, counter(t), file("/f", "text"), dir("/d"), api.File{Path: "/d/prog", Bytes: prog(t)})
		playAll(t, "P14", k, turn{1, open("/f", 0), is(3)}, turn{1, read(3, 1), gives("t")}, turn{1, pipe(), both(4, 5)}, turn{1, shut(0), done()}, turn{1, fork(), is(2)}, turn{2, fork(), is(3)}, turn{2, brk(2), is(0x200)})
		steps(t, k, 2, 5)
		before := tellAll(k)
		playAll(t, "P14", k, turn{2, exec("/d/prog", args...), done()})
		want := before.procs
		want[1] = executed(t, want[1], prog(t), args...)
		if got := k.Procs(); !sameProcs(got, want) {
			t.Fatalf("P14: Exec with %q: %s, want %s", args, brief(got[1]), brief(want[1]))
		}
		if !sameFiles(k.Files(), before.files) {
			t.Error("P14: Exec changed a file")
		}
		before.used.Frames += 7 - 5
		if got := k.Used(); got != before.used {
			t.Errorf("P16: used %+v, want %+v", got, before.used)
		}
	}
}

func TestExecExample(t *testing.T) {
	k := boot(t, loop(t), api.File{Path: "/prog", Bytes: prog(t)})
	playAll(t, "P14", k,
		turn{1, exec("/prog", "one", "two"), done()},
		turn{1, peek(0xfff8, 8), gives("one\x00two\x00")}, turn{1, peek(0xffd0, 1), gives("\x02")}, turn{1, peek(0xffd8, 2), gives("\xf8\xff")}, turn{1, peek(0xffe0, 2), gives("\xfc\xff")},
		turn{1, peek(0x47f, 6), gives("\x00data\x00")}, turn{1, peek(0x9fe, 2), gives("\x00!")},
	)
	p := proc(t, k, 1)
	if p.PC != 0x104 || p.Regs != [16]uint64{15: 0xffd0} {
		t.Errorf("P14: %s", brief(p))
	}
	var pages []int
	for _, g := range p.Pages {
		pages = append(pages, g.Number, int(g.Perm))
	}
	if want := []int{1, 5, 4, 6, 5, 6, 6, 6, 9, 4, 254, 6, 255, 6}; !slices.Equal(pages, want) {
		t.Errorf("P14: pages and what may be done %v, want %v", pages, want)
	}
	steps(t, k, 1, 1)
	if p := proc(t, k, 1); p.PC != 0x104 || p.Regs[1] != 0x108 {
		t.Errorf("P18: a step of what was executed: %s", brief(p))
	}
	playAll(t, "P14: by another one", k, turn{1, exec("/init"), done()}, turn{1, peek(0x480, 1), fails(api.ErrMemory)}, turn{1, peek(0xfff0, 16), gives(strings.Repeat("\x00", 16))}, turn{1, brk(0), is(0x200)})
	if p := proc(t, k, 1); p.Regs != [16]uint64{15: 0xfff0} {
		t.Errorf("P14: %s", brief(p))
	}
}

// TestExecTakesBytes: pages are no longer the file's then, nor the file's bytes theirs.
func TestExecTakesBytes(t *testing.T) {
	b := prog(t)
	k := boot(t, loop(t), api.File{Path: "/prog", Bytes: b})
	at := strings.Index(string(b), "data")
	playAll(t, "P14", k,
		turn{1, exec("/prog"), done()}, turn{1, poke(0x480, "DATA"), is(4)}, turn{1, open("/prog", 0), is(3)}, turn{1, seek(3, at), done()}, turn{1, read(3, 4), gives("data")},
		turn{1, seek(3, at), done()}, turn{1, write(3, "else"), is(4)}, turn{1, peek(0x480, 4), gives("DATA")},
		turn{1, exec("/prog"), done()}, turn{1, peek(0x480, 4), gives("else")},
		turn{1, seek(3, 0), done()}, turn{1, write(3, "x"), is(1)}, turn{1, exec("/prog"), fails(api.ErrHeader)}, turn{1, peek(0x480, 4), gives("else")},
		turn{1, unlink("/prog"), done()}, turn{1, exec("/prog"), fails(api.ErrMissing)}, turn{1, peek(0x480, 4), gives("else")},
	)
	steps(t, k, 1, 1)
}

func TestExecPaths(t *testing.T) {
	for _, x := range pathCases() {
		k := boot(t, loop(t), pathFiles()...)
		want := fails(x.open)
		if x.path == "/f" {
			want = fails(api.ErrHeader)
		}
		playAll(t, "P14", k, turn{1, exec(x.path, "a"), want})
		if want.err != api.OK {
			playAll(t, "P14: ahead of the arguments", k, turn{1, exec(x.path, "\x00"), want})
		}
	}
}

func TestExecErrorsInOrder(t *testing.T) {
	header, segment, entry := loop(t), loop(t), loop(t)
	header[0] = 0
	segment[64] = 2
	entry[24] = 2
	overlap := program(0x100, seg{perm: 5, addr: 0x100, data: []byte{1}}, seg{perm: 4, addr: 0x180, data: []byte{1}})
	l := room()
	l.Frames = 3 // those of /init
	k := bootLimited(t, l, dir("/d"), file("/empty", ""), api.File{Path: "/header", Bytes: header}, api.File{Path: "/segment", Bytes: segment},
		api.File{Path: "/overlap", Bytes: overlap}, api.File{Path: "/entry", Bytes: entry}, api.File{Path: "/prog", Bytes: prog(t)})
	bad := []string{strings.Repeat("x", 31)}
	for _, x := range []struct {
		path string
		want api.Errno
	}{
		{"prog", api.ErrPath}, {"/x/y", api.ErrMissing}, {"/prog/x", api.ErrDir}, {"/x", api.ErrMissing}, {"/d", api.ErrDir}, {"/", api.ErrDir}, {"/d/x", api.ErrMissing},
		{"/empty", api.ErrHeader}, {"/header", api.ErrHeader}, {"/segment", api.ErrSegment}, {"/overlap", api.ErrOverlap}, {"/entry", api.ErrEntry},
	} {
		playAll(t, "P14", k, turn{1, exec(x.path), fails(x.want)}, turn{1, exec(x.path, "a"), fails(x.want)}, turn{1, exec(x.path, bad...), fails(x.want)})
	}
	for _, args := range [][]string{bad, {"a", "b\x00"}, {"\x00"}, slices.Repeat([]string{""}, 9), append(slices.Repeat([]string{"a"}, 7), bad...), {strings.Repeat("x", 1<<16)}} {
		playAll(t, "P14", k, turn{1, exec("/prog", args...), fails(api.ErrArgs)}, turn{1, exec("/init", args...), fails(api.ErrArgs)})
	}
	playAll(t, "P14", k, turn{1, exec("/prog"), fails(api.ErrMemory)}, turn{1, exec("/init"), done()})
}

func TestExecFrames(t *testing.T) {
	for _, pages := range []int{1, 2, 5, 100, 253} {
		for _, frames := range []int{3, pages + 1, pages + 2, pages + 3, pages + 5} {
			if frames < 3 {
				continue
			}
			k := bootLimited(t, withLimit(1, frames), api.File{Path: "/sized", Bytes: sized(pages)})
			want := done()
			if pages+2 > frames {
				want = fails(api.ErrMemory)
			}
			playAll(t, "P14: its own are free then", k, turn{1, exec("/sized"), want})
			if u := k.Used(); want == done() && u.Frames != pages+2 {
				t.Errorf("P16: %d frames are used, want %d", u.Frames, pages+2)
			}
		}
	}
	k := bootLimited(t, withLimit(1, 10), api.File{Path: "/five", Bytes: sized(3)}, api.File{Path: "/six", Bytes: sized(4)}, api.File{Path: "/seven", Bytes: sized(5)}, api.File{Path: "/eight", Bytes: sized(6)})
	playAll(t, "P14: another's are not", k,
		turn{1, fork(), is(2)}, turn{2, exec("/eight"), fails(api.ErrMemory)}, turn{2, exec("/seven"), done()}, turn{1, exec("/five"), fails(api.ErrMemory)}, turn{1, exec("/init"), done()},
		turn{2, exec("/six"), done()}, turn{1, brk(1), is(0x200)}, turn{2, exec("/six"), done()}, turn{2, exec("/seven"), fails(api.ErrMemory)}, turn{1, exec("/init"), done()}, turn{2, exec("/seven"), done()},
		turn{2, exit(0), done()}, turn{1, exec("/eight"), done()},
	)
}

func TestBrk(t *testing.T) {
	k := boot(t, loop(t))
	used := k.Used()
	playAll(t, "P14", k, turn{1, brk(0), is(0x200)}, turn{1, brk(0), is(0x200)})
	want := proc(t, k, 1)
	for _, x := range []struct{ count, at int }{{1, 0x200}, {2, 0x300}, {0, 0x500}, {64, 0x500}, {63, 0x4500}, {0, 0x8400}} {
		playAll(t, "P14", k, turn{1, brk(x.count), is(x.at)})
		for i := range x.count {
			page := api.Page{Number: x.at/256 + i, Perm: 6}
			want.Pages = slices.Insert(want.Pages, len(want.Pages)-2, page)
		}
		used.Frames += x.count
		checkProc(t, "P14", k, want)
		if got := k.Used(); got != used {
			t.Fatalf("P16: used %+v, want %+v", got, used)
		}
	}
	playAll(t, "P14", k, turn{1, poke(0x83ff, "x"), is(1)}, turn{1, poke(0x8400, "x"), fails(api.ErrMemory)}, turn{1, brk(1), is(0x8400)}, turn{1, poke(0x83ff, "yz"), is(2)}, turn{1, peek(0x83fe, 4), gives("\x00yz\x00")})
}

func TestBrkArgs(t *testing.T) {
	for _, frames := range []int{3, 1000} { // ErrArgs ahead of ErrMemory
		k := bootLimited(t, withLimit(1, frames))
		for _, a := range []int{-1, -64, 65, 66, 128, 256, 1 << 32, 1<<32 + 1, -1 << 32, math.MinInt, math.MaxInt} {
			playAll(t, "P14", k, turn{1, brk(a), fails(api.ErrArgs)})
		}
		playAll(t, "P14", k, turn{1, brk(0), is(0x200)})
	}
}

// TestBreak: the break is behind the last page below the stack, wherever others are missing.
func TestBreak(t *testing.T) {
	for _, number := range []int{0, 1, 2, 100, 188, 189, 190, 191, 200, 250, 251, 252, 253} {
		k := boot(t, loop(t), api.File{Path: "/paged", Bytes: paged(number)})
		playAll(t, "P14", k, turn{1, exec("/paged"), done()}, turn{1, brk(0), is(256 * (number + 1))})
		most := min(64, 253-number)
		if most < 64 {
			playAll(t, "P14", k, turn{1, brk(most + 1), fails(api.ErrMemory)}, turn{1, brk(64), fails(api.ErrMemory)})
		}
		playAll(t, "P14", k, turn{1, brk(most), is(256 * (number + 1))}, turn{1, brk(0), is(256 * (number + 1 + most))})
		if number+1+most == 254 {
			playAll(t, "P14", k, turn{1, brk(1), fails(api.ErrMemory)}, turn{1, brk(0), is(65024)})
		}
	}
	gaps := program(0x300, seg{perm: 5, addr: 0x300, data: []byte{1}}, seg{perm: 4, addr: 0x700, data: []byte{1}}, seg{perm: 2, addr: 0x1000, data: []byte{1}, size: 0x101})
	k := boot(t, gaps)
	playAll(t, "P14", k, turn{1, brk(1), is(0x1200)}, turn{1, brk(0), is(0x1300)}, turn{1, peek(0x400, 1), fails(api.ErrMemory)}, turn{1, exec("/init"), done()}, turn{1, brk(0), is(0x1200)})
}

func TestBrkFrames(t *testing.T) {
	for free := range 5 {
		k := bootLimited(t, withLimit(1, 6+free))
		playAll(t, "P14", k, turn{1, fork(), is(2)}, turn{2, brk(free + 1), fails(api.ErrMemory)}, turn{2, brk(64), fails(api.ErrMemory)}, turn{1, brk(free), is(0x200)}, turn{2, brk(1), fails(api.ErrMemory)}, turn{2, brk(0), is(0x200)})
		if u := k.Used(); u.Frames != 6+free {
			t.Errorf("P16: used %+v", u)
		}
		playAll(t, "P14: those of a zombie are free", k, turn{2, exit(0), done()}, turn{1, brk(4), fails(api.ErrMemory)}, turn{1, brk(3), is(0x200 + 256*free)}, turn{1, brk(1), fails(api.ErrMemory)})
	}
	k := bootLimited(t, withLimit(1, 1000), api.File{Path: "/most", Bytes: sized(200)})
	for pid := 2; pid <= 5; pid++ {
		playAll(t, "P12", k, turn{1, fork(), is(pid)}, turn{pid, exec("/most"), done()})
	}
	playAll(t, "P14: up to the most that there are", k, turn{1, brk(64), is(0x200)}, turn{1, brk(64), is(0x4200)}, turn{1, brk(62), fails(api.ErrMemory)}, turn{1, brk(61), is(0x8200)}, turn{2, brk(1), fails(api.ErrMemory)})
}

// TestBrkIsNew: pages are 0, whatever was there ahead of an Exec.
func TestBrkIsNew(t *testing.T) {
	k := boot(t, loop(t))
	playAll(t, "P14", k,
		turn{1, brk(1), is(0x200)}, turn{1, poke(0x200, strings.Repeat("x", 256)), is(256)}, turn{1, exec("/init"), done()}, turn{1, peek(0x200, 1), fails(api.ErrMemory)},
		turn{1, brk(1), is(0x200)}, turn{1, peek(0x200, 256), gives(strings.Repeat("\x00", 256))},
	)
}

// memory boots a kernel whose process 1 has pages of all kinds.
func memory(t *testing.T) *tinyos.Kernel {
	t.Helper()
	return bootWith(t, [16]uint64{}, nil, sundry(t)...)
}

// TestPeekAndPoke reads and writes about the ends of all kinds of pages.
func TestPeekAndPoke(t *testing.T) {
	k := memory(t)
	for n, addr := range places() {
		for _, count := range []int{0, 1, 2, 8, 17, 255, 256, 257, 513} {
			p := proc(t, k, 1)
			want := fails(api.ErrMemory)
			if allows(p, addr, uint64(count), 4) {
				want = gives("")
				for i := range count {
					want.d += string([]byte{*byteAt(&p, addr+uint64(i))})
				}
				want.n = count
			}
			if got := ask(t, k, 1, peek(int(addr), count)); got != want {
				t.Fatalf("P15: Peek(%#x, %d): %+v, want %+v", addr, count, got, want)
			}
			checkProc(t, "P15: after Peek", k, p)
			d := strings.Repeat(string(rune('a'+(n+count)%26)), count)
			want = fails(api.ErrMemory)
			if allows(p, addr, uint64(count), 2) {
				want = is(count)
				for i := range count {
					*byteAt(&p, addr+uint64(i)) = d[i]
				}
			}
			if got := ask(t, k, 1, poke(int(addr), d)); got != want {
				t.Fatalf("P15: Poke(%#x, %d bytes): %+v, want %+v", addr, count, got, want)
			}
			checkProc(t, "P15: after Poke", k, p)
		}
	}
}

func TestPeekExamples(t *testing.T) {
	k := memory(t) // pages 7 and 8 may be read and written, 9 read, 10 written, 11 executed, 12 read and executed
	playAll(t, "P15", k,
		turn{1, peek(0x700, 4), gives("\x01\x50\x66\x77")}, turn{1, peek(0x6ff, 1), fails(api.ErrMemory)}, turn{1, peek(0x6ff, 2), fails(api.ErrMemory)}, turn{1, peek(0x7ff, 2), gives("\x77\x01")},
		turn{1, peek(0x700, 0x300), gives(strings.Repeat("\x01\x50\x66\x77", 192))}, turn{1, peek(0x700, 0x301), fails(api.ErrMemory)}, turn{1, peek(0x9ff, 1), gives("\x77")}, turn{1, peek(0x9ff, 2), fails(api.ErrMemory)},
		turn{1, peek(0xa00, 1), fails(api.ErrMemory)}, turn{1, peek(0xb00, 1), fails(api.ErrMemory)}, turn{1, peek(0xc00, 1), gives("\x01")},
		turn{1, poke(0x8fe, "ab"), is(2)}, turn{1, poke(0x8fe, "cde"), fails(api.ErrMemory)}, turn{1, poke(0x7ff, "yz"), is(2)}, turn{1, peek(0x7fe, 4), gives("\x66yz\x50")}, turn{1, peek(0x8fd, 3), gives("\x50ab")},
		turn{1, poke(0x900, "x"), fails(api.ErrMemory)}, turn{1, poke(0x9ff, "xx"), fails(api.ErrMemory)}, turn{1, poke(0xa00, "x"), is(1)}, turn{1, poke(0xaff, "x"), is(1)}, turn{1, poke(0xaff, "xx"), fails(api.ErrMemory)}, turn{1, poke(0xb00, "x"), fails(api.ErrMemory)}, turn{1, poke(0xc00, "x"), fails(api.ErrMemory)},
		turn{1, peek(0xffff, 1), gives("\x00")}, turn{1, peek(0xfffb, 5), gives("init\x00")}, turn{1, peek(0xfffb, 6), fails(api.ErrMemory)}, turn{1, peek(0x10000, 1), fails(api.ErrMemory)}, turn{1, peek(0xfe00, 512), gives(strings.Repeat("\x00", 0x1e0) + "\x01\x00\x00\x00\x00\x00\x00\x00\xfb\xff\x00\x00\x00\x00\x00\x00\x00\x00\x00\x00\x00\x00\x00\x00\x00\x00\x00init\x00")},
		turn{1, poke(0xfffc, "1234"), is(4)}, turn{1, poke(0xfffc, "12345"), fails(api.ErrMemory)}, turn{1, poke(0x10000, "1"), fails(api.ErrMemory)},
		turn{1, poke(0xfeff, "ab"), is(2)}, turn{1, peek(0xfeff, 2), gives("ab")}, turn{1, poke(0xfdff, "ab"), fails(api.ErrMemory)},
	)
}

// farAddresses have the same lowest bits as one that is there, or are at the ends of 64 bits.
func farAddresses() []int {
	return []int{-1, -2, -8, -256, -0x10000 + 0x700, 0x10000, 0x10000 + 0x700, 1<<32 + 0x700, 1<<62 + 0x700, math.MinInt, math.MinInt + 0x700, math.MaxInt, math.MaxInt - 255}
}

func TestPeekFar(t *testing.T) {
	k := memory(t)
	for _, addr := range farAddresses() {
		playAll(t, "P15", k,
			turn{1, peek(addr, 0), gives("")}, turn{1, peek(addr, 1), fails(api.ErrMemory)}, turn{1, peek(addr, 256), fails(api.ErrMemory)}, turn{1, peek(addr, 4096), fails(api.ErrMemory)},
			turn{1, poke(addr, ""), is(0)}, turn{1, poke(addr, "x"), fails(api.ErrMemory)}, turn{1, poke(addr, strings.Repeat("x", 4096)), fails(api.ErrMemory)},
		)
	}
	zero := boot(t, program(0, seg{perm: 5, addr: 0, data: []byte{1}}, seg{perm: 6, addr: 0x100, data: []byte{1}})) // where addresses would wrap round to
	playAll(t, "P15", zero, turn{1, peek(-1, 2), fails(api.ErrMemory)}, turn{1, peek(-1, 1), fails(api.ErrMemory)}, turn{1, peek(0, 1), gives("\x01")}, turn{1, poke(-1, "ab"), fails(api.ErrMemory)}, turn{1, poke(0, "a"), fails(api.ErrMemory)}, turn{1, poke(0xff, "ab"), fails(api.ErrMemory)}, turn{1, poke(0x100, "a"), is(1)})
	before := tellAll(zero)
	playAll(t, "P15: no bytes, where nothing may be done", zero, turn{1, peek(0x300, 0), gives("")}, turn{1, poke(0x300, ""), is(0)}, turn{1, poke(0, ""), is(0)}, turn{1, api.Call{Kind: api.Poke, A: 0x300}, is(0)})
	if !tellAll(zero).same(before) {
		t.Error("P15: no bytes changed something")
	}
}

func TestPeekArgs(t *testing.T) {
	k := boot(t, loop(t))
	text := strings.Repeat("0123456789abcdef", 257) // 4112 bytes
	playAll(t, "P14", k, turn{1, brk(17), is(0x200)})
	for _, addr := range append(farAddresses(), 0, 0x200, 0x280, 0xfe00) {
		for _, count := range []int{-1, -4096, 4097, 4098, 65536, 1 << 32, 1<<32 + 1, math.MinInt, math.MaxInt} {
			playAll(t, "P15", k, turn{1, peek(addr, count), fails(api.ErrArgs)})
		}
		playAll(t, "P15", k, turn{1, poke(addr, text[:4097]), fails(api.ErrArgs)}, turn{1, poke(addr, text+text), fails(api.ErrArgs)})
	}
	playAll(t, "P15", k,
		turn{1, poke(0x280, text[:4096]), is(4096)}, turn{1, peek(0x280, 4096), gives(text[:4096])}, turn{1, peek(0x27f, 4096), gives("\x00" + text[:4095])}, turn{1, peek(0x281, 4095), gives(text[1:4096])}, turn{1, peek(0x127f, 3), gives("f\x00\x00")},
		turn{1, peek(0x300, 4096), gives(text[128:4096] + strings.Repeat("\x00", 128))}, turn{1, peek(0x301, 4096), fails(api.ErrMemory)}, turn{1, poke(0x301, text[:4096]), fails(api.ErrMemory)}, turn{1, poke(0x301, text[:4095]), is(4095)},
	)
}

func TestAnswersOfPeekAreFresh(t *testing.T) {
	k := boot(t, loop(t))
	playAll(t, "P15", k, turn{1, brk(1), is(0x200)}, turn{1, poke(0x200, "some text"), is(9)}, turn{1, fork(), is(2)})
	var lists [][]byte
	for _, pid := range []int{1, 1, 2} {
		r, err := k.Do(pid, peek(0x200, 9))
		if err != nil || string(r.D) != "some text" {
			t.Fatalf("P15: Peek: %q, %v", r.D, err)
		}
		lists = append(lists, r.D)
	}
	overwrite(lists[0], 'x')
	playAll(t, "P2", k, turn{1, peek(0x200, 9), gives("some text")}, turn{2, peek(0x200, 9), gives("some text")}, turn{1, poke(0x200, "else"), is(4)})
	for _, b := range lists[1:] {
		if string(b) != "some text" {
			t.Errorf("P2: an answer changed to %q", b)
		}
	}
}
