package tinyos_test

import (
	"math"
	"math/rand/v2"
	"strings"
	"testing"

	"tinyos/api"
	"tinyos/tinyos"
)

// far are addresses that have the same lowest bits as one that is there, or are at the end of 64 bits.
func far(addr uint64) []uint64 {
	list := []uint64{math.MaxUint64, math.MaxUint64 - 1, math.MaxUint64 - 3, math.MaxUint64 - 7, 1 << 16, 1 << 63}
	for _, more := range []uint64{1 << 16, 1 << 31, 1 << 32, 1 << 62, 1 << 63, 0xffffffffffff0000} {
		list = append(list, addr+more)
	}
	return list
}

// zeroPage is page 0, to be read and written, full of 0: what wraps round would be in it.
func zeroPage() seg { return seg{perm: 6, addr: 0, size: 256} }

// textAtEnd is a text that ends where a page does, without a byte 0.
func textAtEnd(text string, page int) (int, map[int]string) {
	at := 256*(page+1) - len(text)
	return at, map[int]string{at: text}
}

func TestEcallTexts(t *testing.T) {
	path := "/" + strings.Repeat("a", 13) // of 14 bytes
	for _, x := range []struct {
		what string
		at   int
		text string
		want api.Errno
	}{
		{"a text", 0x700, "/new\x00", api.OK},
		{"a text that goes over into the next page", 0x7fd, "/new\x00", api.OK},
		{"a text that goes over into a page that may not be written", 0x8fe, "/new\x00", api.OK},
		{"a text that ends where a page does", 0x9fb, "/new\x00", api.OK},
		{"a byte 0 that would be in a page that may not be read", 0x9fc, "/new\x00", api.ErrMemory},
		{"a text of which the last byte would be", 0x9fd, "/new\x00", api.ErrMemory},
		{"a page that may be written only", 0xa10, "/new\x00", api.ErrMemory},
		{"the end of a page that may be written only", 0xafb, "/new\x00", api.ErrMemory},
		{"a page that may be executed only", 0xb00, "/new\x00", api.ErrMemory},
		{"a page that may be read and executed", 0xc00, "/new\x00", api.OK},
		{"a page that may be read and executed, its end", 0xcfb, "/new\x00", api.OK},
		{"no bytes, where a page ends", 0x9ff, "\x00", api.ErrPath},
		{"a text with bytes behind its end", 0x700, "/new\x00/x", api.OK},
		{"a path of 60 bytes", 0x700, path + path + path + path + "/aaa\x00", api.ErrMissing},
		{"a text of 61 bytes", 0x700, path + path + path + path + "/aaaa\x00", api.ErrPath},
		{"a text of 63 bytes", 0x700, path + path + path + path + "/aaaaaa\x00", api.ErrPath},
		{"a text of 64 bytes", 0x700, path + path + path + path + "/aaaaaaa\x00", api.ErrPath},
		{"a text of 100 bytes", 0x700, strings.Repeat("/a", 50) + "\x00", api.ErrPath},
	} {
		k := atEcall(t, withRegs(uint64(api.Mkdir), nowhere, nowhere, uint64(x.at), nowhere, nowhere), append(sheets(map[int]string{x.at: x.text}), zeroPage()))
		if x.want != api.OK {
			checkRefused(t, x.what, k, x.want)
			continue
		}
		steps(t, k, 1, 1)
		if f := k.Files(); len(f) != 2 || f[1].Path != "/new" || !f[1].Dir || proc(t, k, 1).Regs[1] != 0 {
			t.Errorf("P19: %s: files %+v", x.what, f[1:])
		}
	}
}

// TestEcallLooksAt64 has texts that end with a page that may be read, without a byte 0, of each kind of call that has one.
func TestEcallLooksAt64(t *testing.T) {
	for _, kind := range []api.Kind{api.Exec, api.Open, api.Unlink, api.Mkdir, api.Checkpoint, api.Restore} {
		for size := 1; size <= 70; size++ {
			at, texts := textAtEnd(strings.Repeat("y", size), 9)
			texts[0x780] = words(0)
			want := api.ErrMemory
			if size >= 64 {
				want = api.ErrPath
			}
			k := atEcall(t, withRegs(uint64(kind), 2, nowhere, uint64(at), 0x780, nowhere), sheets(texts), turn{1, fork(), is(2)})
			checkRefused(t, "a text without an end", k, want)
		}
	}
}

// TestEcallTextsFar has texts at the end of the address space, behind it, and where nothing is.
func TestEcallTextsFar(t *testing.T) {
	for _, kind := range []api.Kind{api.Exec, api.Open, api.Unlink, api.Mkdir, api.Checkpoint, api.Restore} {
		for _, at := range append(far(0x700), 0x200, 0x3ff, 0x600, 0x6ff, 0xd00, 0xfdff, 0x10000, 0x10001) {
			k := atEcall(t, withRegs(uint64(kind), 2, 1, at, 0x780, 1), append(sheets(map[int]string{0x780: words(0)}), zeroPage()), turn{1, fork(), is(2)})
			checkRefused(t, "a text that is not there", k, api.ErrMemory)
		}
	}
	for at, want := range map[int]answer{0xfffb: done(), 0xffff: fails(api.ErrPath), 0xfffc: fails(api.ErrPath)} {
		k := atEcall(t, withRegs(uint64(api.Mkdir), 0, 0, uint64(at), 0, 0), nil, turn{1, poke(0xfffb, "/new\x00"), is(5)})
		twin := atEcall(t, withRegs(uint64(api.Mkdir), 0, 0, uint64(at), 0, 0), nil, turn{1, poke(0xfffb, "/new\x00"), is(5)})
		c := mkdir("/new\x00"[at-0xfffb : 4])
		try(t, "P19", twin, turn{1, c, want})
		checkEcall(t, "a text at the end", k, 1, c, want, tellAll(twin))
	}
	for _, size := range []int{1, 4, 63, 64, 65} {
		regs := withRegs(uint64(api.Mkdir), 0, 0, uint64(0x10000-size), 0, 0)
		k := atEcall(t, regs, []seg{zeroPage()}, turn{1, poke(0x10000-size, strings.Repeat("y", size)), is(size)})
		want := api.ErrMemory
		if size >= 64 {
			want = api.ErrPath
		}
		checkRefused(t, "a text past the last address", k, want)
	}
}

// listed has a process execute /init with the list at an address. The texts are at 0x800.
func listed(t *testing.T, at int, list string) *tinyos.Kernel {
	t.Helper()
	texts := map[int]string{0x700: "/init\x00", 0x800: "one\x00two\x00", at: list}
	return atEcall(t, withRegs(uint64(api.Exec), nowhere, nowhere, 0x700, uint64(at), nowhere), append(sheets(texts), zeroPage()))
}

func TestEcallLists(t *testing.T) {
	const one, two, rest, none, long = 0x800, 0x804, 0x805, 0x803, 0x880
	eight := words(one, two, one, two, one, two, one, two)
	for _, x := range []struct {
		what string
		at   int
		list string
		want api.Errno
		args []string
	}{
		{"no texts", 0x780, words(0), api.OK, nil},
		{"no texts, and an address that is none behind it", 0x780, words(0, nowhere), api.OK, nil},
		{"two texts", 0x780, words(one, two, 0), api.OK, []string{"one", "two"}},
		{"one text again and again", 0x780, words(two, two, two, 0), api.OK, []string{"two", "two", "two"}},
		{"a text of no bytes, and the end of one", 0x780, words(none, rest, 0, one), api.OK, []string{"", "wo"}},
		{"eight texts", 0x780, eight + words(0), api.OK, []string{"one", "two", "one", "two", "one", "two", "one", "two"}},
		{"nine texts", 0x780, eight + words(one, 0), api.ErrArgs, nil},
		{"nine texts, the last one not there", 0x780, eight + words(nowhere), api.ErrMemory, nil},
		{"ten texts, the last one not there", 0x780, eight + words(one, nowhere), api.ErrArgs, nil},
		{"a list that goes over into the next page", 0x8f5, words(one, two, 0), api.OK, []string{"one", "two"}},
		{"a list that ends where a page does", 0x9e8, words(one, two, 0), api.OK, []string{"one", "two"}},
		{"a list whose end may not be read", 0x9f0, words(one, two, 0), api.ErrMemory, nil},
		{"a list of whose end one byte may not be read", 0x9e9, words(one, two, 0), api.ErrMemory, nil},
		{"seven texts that end where a page does", 0x9c0, words(one, two, one, two, one, two, one, 0), api.OK, []string{"one", "two", "one", "two", "one", "two", "one"}},
		{"eight texts, and the page's end", 0x9c0, eight, api.ErrMemory, nil},
		{"eight texts that end where a page does", 0x9b8, eight + words(0), api.OK, []string{"one", "two", "one", "two", "one", "two", "one", "two"}},
		{"nine texts, and the page's end", 0x9b8, eight + words(one), api.ErrArgs, nil},
		{"a list that may not be read", 0xa00, words(0), api.ErrMemory, nil},
		{"a list that may be executed only", 0xb00, words(0), api.ErrMemory, nil},
		{"a list among code", 0xc00, words(one, 0), api.OK, []string{"one"}},
		{"a text that may not be read", 0x780, words(one, 0xa00, 0), api.ErrMemory, nil},
		{"a text behind the last address", 0x780, words(0x10000, 0), api.ErrMemory, nil},
		{"an address whose highest byte alone is not 0", 0x780, words(1<<56, 0), api.ErrMemory, nil},
		{"an address with the same lowest bits", 0x780, words(1<<32+one, 0), api.ErrMemory, nil},
		{"a text that has no end in 64 bytes", 0x780, words(long, 0), api.ErrArgs, nil},
		{"a text of 64 bytes, and the page's end", 0x780, words(0x9c0, 0), api.ErrArgs, nil},
		{"a text of 63 bytes, and the page's end", 0x780, words(0x9c1, 0), api.ErrMemory, nil},
		{"a wrong text, and one that is not there", 0x780, words(long, nowhere, 0), api.ErrMemory, nil},
	} {
		k, twin := listed(t, x.at, x.list), listed(t, x.at, x.list)
		if x.want != api.OK {
			checkRefused(t, x.what, k, x.want)
			continue
		}
		try(t, x.what, twin, turn{1, exec("/init", x.args...), done()})
		checkEcall(t, x.what, k, 1, exec("/init"), done(), tellAll(twin))
	}
}

func TestEcallListsFar(t *testing.T) {
	for _, at := range append(far(0x780), 0x200, 0x3ff, 0x600, 0x6f9, 0xcf9, 0xd00, 0xfdff, 0xfff9, 0xffff, 0x10000) {
		texts := map[int]string{0x700: "/init\x00", 0x780: words(0)}
		k := atEcall(t, withRegs(uint64(api.Exec), 0, 0, 0x700, at, 0), append(sheets(texts), zeroPage()))
		checkRefused(t, "a list that is not there", k, api.ErrMemory)
	}
	k := atEcall(t, withRegs(uint64(api.Exec), 0, 0, 0xffe0, 0xfff0, nowhere), nil, turn{1, poke(0xffe0, "/init\x00"), is(6)}, turn{1, poke(0xfff0, words(0xffe1, 0)), is(16)})
	want := executed(t, proc(t, k, 1), bytesOf(t, k, "/init"), "init")
	steps(t, k, 1, 1)
	checkProc(t, "P19: a list at the end of the address space", k, want)
}

// TestEcallListTexts has arguments of just as many bytes as one may have, and one more.
func TestEcallListTexts(t *testing.T) {
	for size := 28; size <= 70; size++ {
		text := strings.Repeat("y", size)
		texts := map[int]string{0x700: "/init\x00", 0x780: words(0x800, 0), 0x800: text + "\x00"}
		k := atEcall(t, withRegs(uint64(api.Exec), 0, 0, 0x700, 0x780, 0), sheets(texts))
		if size > 30 {
			checkRefused(t, "too long an argument", k, api.ErrArgs)
			continue
		}
		want := executed(t, proc(t, k, 1), bytesOf(t, k, "/init"), text)
		steps(t, k, 1, 1)
		checkProc(t, "P19", k, want)
	}
}

// wide is 18 pages that may be read and written, full of w.
func wide() seg { return seg{perm: 6, addr: 0x2000, data: []byte(strings.Repeat("w", 18*256))} }

// TestEcallData has Write and Poke take bytes from all kinds of places.
func TestEcallData(t *testing.T) {
	stack := strings.Repeat("\x00", 0xe0) + words(1, 0xfffb, 0) + "\x00\x00\x00init\x00" // its second page
	for _, x := range []struct {
		at, size uint64
		want     string
		err      api.Errno
	}{
		{0x700, 3, "xxx", 0}, {0x7ff, 2, "xx", 0}, {0x700, 256, strings.Repeat("x", 256), 0}, {0x700, 0x300, strings.Repeat("x", 0x300), 0}, {0x700, 0x301, "", api.ErrMemory}, {0x9ff, 1, "x", 0}, {0x9ff, 2, "", api.ErrMemory},
		{0xa00, 1, "", api.ErrMemory}, {0xaff, 2, "", api.ErrMemory}, {0xb00, 1, "", api.ErrMemory}, {0xc00, 1, "x", 0}, {0xbff, 2, "", api.ErrMemory}, {0xcff, 1, "x", 0}, {0xcff, 2, "", api.ErrMemory}, {0x6ff, 1, "", api.ErrMemory}, {0x6ff, 2, "", api.ErrMemory},
		{0x2000, 4095, strings.Repeat("w", 4095), 0}, {0x2000, 4096, strings.Repeat("w", 4096), 0}, {0x2001, 4096, strings.Repeat("w", 4096), 0}, {0x2200, 4096, strings.Repeat("w", 4096), 0}, {0x2201, 4096, "", api.ErrMemory},
		{0x2000, 4097, "", api.ErrMemory}, {0x2000, 4098, "", api.ErrMemory}, {0x2000, 1 << 16, "", api.ErrMemory}, {0x2000, 1 << 32, "", api.ErrMemory}, {0x2000, 1<<32 + 1, "", api.ErrMemory}, {0x2000, 1 << 63, "", api.ErrMemory}, {0x2000, 1<<63 + 1, "", api.ErrMemory}, {0x2000, math.MaxUint64, "", api.ErrMemory},
		{0xfffb, 5, "init\x00", 0}, {0xfffb, 6, "", api.ErrMemory}, {0xff00, 256, stack, 0}, {0xff00, 257, "", api.ErrMemory}, {0xffff, 1, "\x00", 0}, {0x10000, 1, "", api.ErrMemory}, {math.MaxUint64, 1, "", api.ErrMemory}, {math.MaxUint64, 2, "", api.ErrMemory}, {math.MaxUint64 - 3, 8, "", api.ErrMemory},
		{0x700, 0, "", 0}, {0xa00, 0, "", 0}, {0x600, 0, "", 0}, {0x10000, 0, "", 0}, {math.MaxUint64, 0, "", 0}, {1 << 63, 0, "", 0}, {1<<32 + 0x700, 1, "", api.ErrMemory}, {1<<63 + 0x700, 1, "", api.ErrMemory},
	} {
		segs := append(sheets(nil), wide())
		for _, c := range []api.Call{write(1, x.want), poke(0x2100, x.want)} {
			regs := withRegs(uint64(c.Kind), uint64(c.A), 1<<40, nowhere, x.at, x.size)
			k, twin := atEcall(t, regs, segs), atEcall(t, regs, segs)
			if x.err != api.OK {
				checkRefused(t, "bytes that can't be read", k, x.err)
				checkConsole(t, k, "")
				continue
			}
			try(t, "P19", twin, turn{1, c, is(len(x.want))})
			checkEcall(t, "bytes", k, 1, c, is(len(x.want)), tellAll(twin))
			checkConsole(t, k, string(twin.Console()))
		}
	}
}

// TestEcallDataAheadOfAll: ErrMemory is ahead of the errors of the call.
func TestEcallDataAheadOfAll(t *testing.T) {
	for _, x := range []struct {
		regs []uint64
		want api.Errno
	}{
		{[]uint64{uint64(api.Write), 9, 0, 0, 0xa00, 1}, api.ErrMemory},
		{[]uint64{uint64(api.Write), 9, 0, 0, 0x700, 1}, api.ErrFd},
		{[]uint64{uint64(api.Write), 9, 0, 0, 0x2000, 4097}, api.ErrMemory},
		{[]uint64{uint64(api.Write), 3, 0, 0, 0xa00, 1}, api.ErrMemory}, // an end to read
		{[]uint64{uint64(api.Write), 4, 0, 0, 0xa00, 1}, api.ErrMemory}, // a pipe that is full
		{[]uint64{uint64(api.Poke), nowhere, 0, 0, 0xa00, 1}, api.ErrMemory},
		{[]uint64{uint64(api.Poke), nowhere, 0, 0, 0x700, 1}, api.ErrMemory},
		{[]uint64{uint64(api.Poke), 0x900, 0, 0, 0x700, 1}, api.ErrMemory},
		{[]uint64{uint64(api.Open), nowhere, 0, 0xa00}, api.ErrMemory},
		{[]uint64{uint64(api.Open), nowhere, 0, 0x700}, api.ErrPath},
		{[]uint64{uint64(api.Checkpoint), 1, 0, 0xa00}, api.ErrMemory},
		{[]uint64{uint64(api.Checkpoint), 1, 0, 0x700}, api.ErrPid},
		{[]uint64{uint64(api.Restore), 1, 0, 0xa00}, api.ErrMemory},
		{[]uint64{uint64(api.Exec), 1, 0, 0x700, 0xa00}, api.ErrMemory},
		{[]uint64{uint64(api.Exec), 1, 0, 0xa00, 0x780}, api.ErrMemory},
		{[]uint64{uint64(api.Exec), 1, 0, 0x700, 0x780}, api.ErrPath},
		{[]uint64{uint64(api.Read), 9, 1, 0, 0x900}, api.ErrMemory},
		{[]uint64{uint64(api.Read), 9, 1, 0, 0x700}, api.ErrFd},
		{[]uint64{uint64(api.Read), 9, 0, 0, 0x900}, api.ErrFd},
		{[]uint64{uint64(api.Read), 9, math.MaxUint64, 0, 0x900}, api.ErrFd},
		{[]uint64{uint64(api.Read), 9, 1 << 63, 0, 0x900}, api.ErrFd},
		{[]uint64{uint64(api.Read), 0, math.MaxUint64, 0, 0x900}, api.ErrArgs},
		{[]uint64{uint64(api.Read), 0, 1 << 63, 0, 0x900}, api.ErrArgs},
		{[]uint64{uint64(api.Read), 0, 4097, 0, 0x2000}, api.ErrArgs},
		{[]uint64{uint64(api.Read), 0, 4097, 0, 0x2201}, api.ErrMemory},
		{[]uint64{uint64(api.Read), 0, 18 * 256, 0, 0x2000}, api.ErrArgs},
		{[]uint64{uint64(api.Read), 0, 18*256 + 1, 0, 0x2000}, api.ErrMemory},
		{[]uint64{uint64(api.Read), 0, math.MaxInt64, 0, 0x2000}, api.ErrMemory},
		{[]uint64{uint64(api.Read), 0, 1 << 32, 0, 0x2000}, api.ErrMemory},
		{[]uint64{uint64(api.Read), 0, 1, 0, 0x900}, api.ErrMemory}, // nothing is typed
		{[]uint64{uint64(api.Read), 0, 1, 0, math.MaxUint64}, api.ErrMemory},
		{[]uint64{uint64(api.Peek), nowhere, 1, 0, 0x900}, api.ErrMemory},
		{[]uint64{uint64(api.Peek), nowhere, 0, 0, 0x900}, api.OK},
		{[]uint64{uint64(api.Peek), nowhere, 4097, 0, 0x2000}, api.ErrArgs},
		{[]uint64{uint64(api.Peek), nowhere, 4096, 0, 0x2000}, api.ErrMemory},
		{[]uint64{uint64(api.Peek), nowhere, math.MaxUint64, 0, 0x900}, api.ErrArgs},
		{[]uint64{uint64(api.Peek), 0x700, 4097, 0, 0x2201}, api.ErrMemory},
	} {
		segs := append(sheets(map[int]string{0x780: words(0)}), wide())
		k := atEcall(t, withRegs(x.regs...), segs, turn{1, pipe(), both(3, 4)}, turn{1, write(4, strings.Repeat("y", 64)), is(64)})
		if x.want == api.OK {
			checkEcall(t, "no bytes", k, 1, api.Call{Kind: api.Kind(x.regs[0])}, done(), tellAll(k))
			continue
		}
		checkRefused(t, "several errors", k, x.want)
	}
}

// TestEcallRoom has Read and Peek write to all kinds of places.
func TestEcallRoom(t *testing.T) {
	for _, x := range []struct {
		at, size uint64
		right    bool
	}{
		{0x700, 1, true}, {0x7ff, 2, true}, {0x700, 0x200, true}, {0x700, 0x201, false}, {0x8ff, 1, true}, {0x8ff, 2, false}, {0x900, 1, false}, {0x9ff, 2, false}, {0xa00, 1, true}, {0xa00, 256, true}, {0xaff, 1, true}, {0xaff, 2, false},
		{0xb00, 1, false}, {0xc00, 1, false}, {0x6ff, 1, false}, {0x6ff, 2, false}, {0x100, 1, false}, {0x400, 1, false}, {0xfe00, 512, true}, {0xfe00, 513, false}, {0xffff, 1, true}, {0xffff, 2, false}, {0x10000, 1, false}, {0xfdff, 2, false},
		{0x2000, 4096, true}, {0x2200, 4096, true}, {0x2201, 4096, false}, {math.MaxUint64, 1, false}, {math.MaxUint64, 2, false}, {math.MaxUint64 - 3, 8, false}, {1<<32 + 0x700, 1, false}, {1<<63 + 0x700, 1, false}, {1<<16 + 0x700, 1, false},
		{0x900, 0, true}, {0x600, 0, true}, {math.MaxUint64, 0, true}, {1 << 16, 0, true},
	} {
		text := strings.Repeat("some text ", 410)[:4096]
		segs := append(sheets(nil), wide())
		for _, c := range []api.Call{read(3, int(x.size)), peek(0x2000, int(x.size))} {
			regs := withRegs(uint64(c.Kind), uint64(c.A), x.size, nowhere, x.at, nowhere)
			k := atEcall(t, regs, segs, append(opened("/f", text), turn{1, poke(0x2000, text), is(4096)})...)
			twin := atEcall(t, regs, segs, append(opened("/f", text), turn{1, poke(0x2000, text), is(4096)})...)
			if !x.right {
				checkRefused(t, "no room", k, api.ErrMemory)
				continue
			}
			try(t, "P19", twin, turn{1, c, gives(text[:x.size])})
			checkEcall(t, "room", k, 1, c, gives(text[:x.size]), tellAll(twin))
		}
	}
}

// TestEcallRoomForAll: there must be room for B bytes, even if fewer are there to be read; nothing is written behind these.
func TestEcallRoomForAll(t *testing.T) {
	for _, x := range []struct {
		at, most uint64
		want     answer
	}{
		{0x8fd, 3, gives("abc")}, {0x8fd, 4, fails(api.ErrMemory)}, {0x8f0, 16, gives("abc")}, {0x8f0, 17, fails(api.ErrMemory)}, {0x700, 8, gives("abc")}, {0x700, 2, gives("ab")}, {0xffff, 3, fails(api.ErrMemory)}, {0xfffd, 3, gives("abc")}, {0xfffd, 4, fails(api.ErrMemory)},
	} {
		for _, fd := range []int{0, 3, 4} { // the console, a file, a pipe
			c := read(fd, int(x.most))
			regs := withRegs(uint64(c.Kind), uint64(fd), x.most, nowhere, x.at, nowhere)
			turns := append(opened("/f", "abc"), turn{1, pipe(), both(4, 5)}, turn{1, write(5, "abc"), is(3)})
			k, twin := atEcall(t, regs, sheets(nil), turns...), atEcall(t, regs, sheets(nil), turns...)
			typeIn(t, k, "abc")
			typeIn(t, twin, "abc")
			if x.want.err == api.OK {
				try(t, "P19", twin, turn{1, c, x.want})
			}
			checkEcall(t, "room for all", k, 1, c, x.want, tellAll(twin))
			rest := "abc"[len(x.want.d):]
			if rest != "" || fd == 3 {
				playAll(t, "P1: nothing was read with an error", k, turn{1, read(fd, 9), gives(rest)})
			}
		}
	}
}

// TestEcallWrapsRound: behind the last address of 64 bits is nothing, even if page 0 is there.
func TestEcallWrapsRound(t *testing.T) {
	for _, kind := range []api.Kind{api.Exec, api.Read, api.Write, api.Peek, api.Poke} {
		for _, at := range far(0x700) {
			for _, size := range []uint64{1, 2, 4, 8, 9, 256} {
				k := atEcall(t, withRegs(uint64(kind), 0, size, 0x700, at, size), append(sheets(map[int]string{0x700: "/init\x00"}), zeroPage()))
				typeIn(t, k, "typed")
				checkRefused(t, "an address that is none", k, api.ErrMemory)
				checkConsole(t, k, "")
			}
		}
	}
}

// TestEcallPeekOverItself has Peek write over the bytes that it reads.
func TestEcallPeekOverItself(t *testing.T) {
	for _, by := range []int{-5, -1, 0, 1, 5} {
		c := peek(0x720, 16)
		regs := withRegs(uint64(c.Kind), uint64(c.A), uint64(c.B), nowhere, uint64(0x720+by), nowhere)
		k := atEcall(t, regs, sheets(map[int]string{0x720: "abcdefghijklmnop"}))
		checkEcall(t, "Peek", k, 1, c, gives("abcdefghijklmnop"), tellAll(k))
	}
}

// TestEcallAnyRegisters holds Ecalls with any numbers in the registers against the model.
func TestEcallAnyRegisters(t *testing.T) {
	r := rand.New(rand.NewPCG(9, 10))
	all := append(places(), edges...)
	ecalls := counts{}
	for range 6000 {
		regs := [16]uint64{}
		for n := range regs {
			regs[n] = anyOf(r, anyOf(r, edges...), anyOf(r, all...), uint64(r.IntN(10)))
		}
		regs[1] = anyOf(r, uint64(r.IntN(24)), uint64(r.IntN(24)), uint64(r.IntN(24)), regs[1])
		regs[4] = anyOf(r, anyOf(r, all...), uint64(0x700+16*r.IntN(6)))
		if r.IntN(2) == 0 {
			regs[2], regs[3], regs[5], regs[6] = uint64(r.IntN(8)), uint64(r.IntN(8)), uint64(0x750+r.IntN(0x200)), uint64(r.IntN(8))
		}
		texts := map[int]string{0x700: "/init\x00", 0x710: "/f\x00", 0x720: "/\x00", 0x730: "/i\x00", 0x740: "/j\x00", 0x750: words(0x700, 0x720, 0)}
		turns := append(opened("/f", "some text"), turn{1, pipe(), both(4, 5)}, turn{1, fork(), is(2)}, turn{2, shut(3), done()}, turn{2, shut(4), done()}, turn{2, shut(5), done()}, turn{1, fork(), is(3)}, turn{1, checkpoint(2, "/i"), is(1)})
		k := atEcall(t, regs, sheets(texts))
		m := newModel(room(), k.Files(), proc(t, k, 1))
		m.ecalls = ecalls
		for _, x := range turns {
			m.make(t, k, x.pid, x.call)
		}
		m.stepBoth(t, k, 1+r.IntN(3))
		if got, want := tellAll(k), m.whole(); !got.same(want) {
			t.Fatalf("P19: registers %x: used %+v, want %+v; processes\n%s\nwant\n%s", regs, got.used, want.used, briefAll(got.procs), briefAll(want.procs))
		}
		checkConsole(t, k, string(m.written))
	}
	want := map[api.Kind][]api.Errno{0: {api.ErrCall}, api.Exec: {api.ErrMemory}, api.Write: {api.OK, api.ErrMemory, api.ErrFd}, api.Read: {api.OK, api.ErrMemory, api.ErrFd, api.ErrArgs, api.ErrAgain}, api.Mkdir: {api.OK, api.ErrMemory, api.ErrPath}}
	ecalls.check(t, "an Ecall", want)
}
