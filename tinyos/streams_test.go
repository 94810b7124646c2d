package tinyos_test

import (
	"strings"
	"testing"

	"tinyos/api"
	"tinyos/tinyos"
)

// typeIn types, and then writes into what was handed in.
func typeIn(t *testing.T, k *tinyos.Kernel, text string) {
	t.Helper()
	const spare = "spare room"
	b := []byte(text + spare)
	k.Type(b[:len(text)])
	if string(b) != text+spare {
		t.Fatalf("P2: Type wrote into what was handed in: %q", b)
	}
	overwrite(b, 0xee)
}

// checkConsole asks for what was written, and then writes into the answer.
func checkConsole(t *testing.T, k *tinyos.Kernel, want string) {
	t.Helper()
	got := k.Console()
	if string(got) != want {
		t.Fatalf("P10: Console() = %q, want %q", got, want)
	}
	overwrite(got, 0xee)
}

func TestConsoleIsRead(t *testing.T) {
	k := bootLimited(t, withLimit(2, 0))
	play(t, "P10", k, line{read(0, 1), fails(api.ErrAgain)}, line{read(1, 4096), fails(api.ErrAgain)}, line{read(2, 0), gives("")}, line{read(0, 4097), fails(api.ErrArgs)})
	typeIn(t, k, "typed")
	play(t, "P10", k, line{read(0, 0), gives("")}, line{read(0, -1), fails(api.ErrArgs)}, line{read(0, 3), gives("typ")})
	typeIn(t, k, "")
	typeIn(t, k, "!")
	typeIn(t, k, "\x00\xff")
	play(t, "P10", k, line{read(1, 1), gives("e")}, line{read(2, 9), gives("d!\x00\xff")}, line{read(0, 9), fails(api.ErrAgain)}, line{read(0, 0), gives("")})
	k.Type(nil)
	play(t, "P10", k, line{read(0, 1), fails(api.ErrAgain)})
	long := strings.Repeat("0123456789", 1000)
	typeIn(t, k, long)
	play(t, "P10", k, line{read(0, 4096), gives(long[:4096])}, line{read(0, 4095), gives(long[4096:8191])}, line{read(0, 4096), gives(long[8191:])}, line{read(0, 4096), fails(api.ErrAgain)})
	checkConsole(t, k, "")
	checkUsed(t, k, 0, 0, 0)
}

func TestConsoleIsWritten(t *testing.T) {
	k := bootLimited(t, withLimit(2, 0))
	checkConsole(t, k, "")
	long := strings.Repeat("0123456789abcdef", 256)
	play(t, "P10", k, line{write(1, "one "), is(4)}, line{write(0, "two "), is(4)}, line{write(2, ""), is(0)}, line{write(2, "\x00"), is(1)})
	checkConsole(t, k, "one two \x00")
	checkConsole(t, k, "")
	play(t, "P10", k, line{write(1, long), is(4096)}, line{write(1, long+"x"), fails(api.ErrArgs)}, line{write(2, long[1:]), is(4095)})
	checkConsole(t, k, long+long[1:])
	play(t, "P10", k, line{write(1, "a"), is(1)}, line{read(0, 1), fails(api.ErrAgain)})
	typeIn(t, k, "typed")
	checkConsole(t, k, "a")
	play(t, "P10", k, line{read(0, 9), gives("typed")})
}

func TestConsoleAnswersAreFresh(t *testing.T) {
	k := boot(t, loop(t))
	play(t, "P10", k, line{write(1, "first"), is(5)})
	one := k.Console()
	play(t, "P10", k, line{write(1, "other"), is(5)})
	two := k.Console()
	if string(one) != "first" || string(two) != "other" {
		t.Errorf("P2: Console() answered %q and %q", one, two)
	}
}

func TestConsoleIsNoObject(t *testing.T) {
	k := bootLimited(t, withLimit(2, 0))
	for fd := 3; fd < 8; fd++ {
		play(t, "P10", k, line{dup(fd - 3), is(fd)})
	}
	play(t, "P10", k, line{dup(0), fails(api.ErrFds)}, line{seek(7, 0), fails(api.ErrFd)})
	checkUsed(t, k, 0, 0, 0)
	for fd := range 7 {
		play(t, "P10", k, line{shut(fd), done()}, line{shut(fd), fails(api.ErrFd)})
	}
	typeIn(t, k, "typed")
	play(t, "P10", k, line{read(7, 2), gives("ty")}, line{write(7, "out"), is(3)}, line{shut(7), done()}, line{read(7, 1), fails(api.ErrFd)}, line{write(7, "x"), fails(api.ErrFd)})
	typeIn(t, k, "more")
	checkConsole(t, k, "out")
	checkConsole(t, k, "")
	checkFds(t, k)
}

// TestConsoleOfAZombie: what it wrote is told, and typing goes on.
func TestConsoleOfAZombie(t *testing.T) {
	k := trapped(t, line{write(1, "last words"), is(10)})
	typeIn(t, k, "typed")
	checkConsole(t, k, "last words")
	checkConsole(t, k, "")
}

func TestPipe(t *testing.T) {
	k := boot(t, loop(t))
	play(t, "P11", k,
		line{pipe(), both(3, 4)},
		line{read(3, 1), fails(api.ErrAgain)}, line{read(3, 4096), fails(api.ErrAgain)}, line{read(3, 0), gives("")}, line{read(3, -1), fails(api.ErrArgs)}, line{read(3, 4097), fails(api.ErrArgs)},
		line{write(4, ""), is(0)}, line{read(3, 1), fails(api.ErrAgain)},
		line{write(4, "abc"), is(3)}, line{write(4, "de"), is(2)}, line{read(3, 0), gives("")}, line{read(3, 2), gives("ab")}, line{read(3, 2), gives("cd")},
		line{write(4, "fg"), is(2)}, line{read(3, 4096), gives("efg")}, line{read(3, 1), fails(api.ErrAgain)},
	)
	checkUsed(t, k, 2, 0, 0)
	checkConsole(t, k, "")
}

func TestPipeWrongEnd(t *testing.T) {
	k := boot(t, loop(t))
	long := strings.Repeat("x", 4097)
	play(t, "P9", k,
		line{pipe(), both(3, 4)}, line{write(4, "abc"), is(3)},
		line{write(3, "x"), fails(api.ErrFd)}, line{write(3, ""), fails(api.ErrFd)}, line{write(3, long), fails(api.ErrFd)},
		line{read(4, 1), fails(api.ErrFd)}, line{read(4, 0), fails(api.ErrFd)}, line{read(4, -1), fails(api.ErrFd)}, line{read(4, 4097), fails(api.ErrFd)},
		line{write(4, long), fails(api.ErrArgs)},
		line{read(3, 9), gives("abc")},
		line{shut(3), done()}, line{write(4, long), fails(api.ErrArgs)}, line{read(4, 1), fails(api.ErrFd)},
	)
}

func TestPipeHasRoom(t *testing.T) {
	text := strings.Repeat("0123456789abcdef", 5) // 80 bytes
	k := boot(t, loop(t))
	play(t, "P11", k,
		line{pipe(), both(3, 4)},
		line{write(4, text[:64]), is(64)}, line{write(4, "x"), fails(api.ErrAgain)}, line{write(4, text), fails(api.ErrAgain)}, line{write(4, ""), is(0)},
		line{read(3, 64), gives(text[:64])},
		line{write(4, text[:65]), is(64)}, line{write(4, "x"), fails(api.ErrAgain)}, line{read(3, 1), gives("0")}, line{write(4, "xy"), is(1)}, line{write(4, "y"), fails(api.ErrAgain)},
		line{read(3, 63), gives(text[1:64])}, line{write(4, text[:62]), is(62)}, line{write(4, "12"), is(1)}, line{read(3, 65), gives("x" + text[:62] + "1")},
		line{read(3, 1), fails(api.ErrAgain)}, line{write(4, strings.Repeat(text, 51)), is(64)}, line{read(3, 4096), gives(text[:64])},
		line{write(4, text[:63]), is(63)}, line{write(4, text[63:]), is(1)}, line{read(3, 4096), gives(text[:64])},
	)
}

func TestPipeWithoutWriter(t *testing.T) {
	k := boot(t, loop(t))
	play(t, "P11", k,
		line{pipe(), both(3, 4)}, line{write(4, "abcd"), is(4)}, line{dup(4), is(5)}, line{shut(4), done()},
		line{read(3, 3), gives("abc")}, line{read(3, 3), gives("d")}, line{read(3, 1), fails(api.ErrAgain)},
		line{write(5, "ef"), is(2)}, line{shut(5), done()}, line{read(3, 1), gives("e")}, line{read(3, 9), gives("f")}, line{read(3, 9), gives("")}, line{read(3, 0), gives("")}, line{read(3, 4096), gives("")},
		line{read(3, 4097), fails(api.ErrArgs)},
	)
	checkUsed(t, k, 1, 0, 0)
	play(t, "P11: another pipe", k, line{pipe(), both(4, 5)}, line{read(3, 1), gives("")}, line{read(4, 1), fails(api.ErrAgain)}, line{shut(3), done()})
	checkUsed(t, k, 2, 0, 0)
}

func TestPipeWithoutReader(t *testing.T) {
	k := boot(t, loop(t))
	full := strings.Repeat("x", 64)
	play(t, "P11", k,
		line{pipe(), both(3, 4)}, line{dup(3), is(5)}, line{shut(3), done()}, line{write(4, full), is(64)}, line{write(4, "x"), fails(api.ErrAgain)},
		line{shut(5), done()}, line{write(4, "x"), fails(api.ErrPipe)}, line{write(4, ""), fails(api.ErrPipe)}, line{write(4, strings.Repeat("x", 4097)), fails(api.ErrArgs)},
	)
	checkUsed(t, k, 1, 0, 0)
	play(t, "P11: another pipe", k, line{pipe(), both(3, 5)}, line{write(4, "x"), fails(api.ErrPipe)}, line{write(5, "x"), is(1)}, line{shut(4), done()})
	checkUsed(t, k, 2, 0, 0)
	play(t, "P11", k, line{shut(3), done()}, line{shut(5), done()})
	checkUsed(t, k, 0, 0, 0)
}

func TestPipesAreApart(t *testing.T) {
	k := boot(t, loop(t))
	play(t, "P11", k,
		line{pipe(), both(3, 4)}, line{pipe(), both(5, 6)}, line{write(4, "one"), is(3)}, line{write(6, "two"), is(3)},
		line{read(5, 9), gives("two")}, line{read(5, 9), fails(api.ErrAgain)}, line{shut(6), done()}, line{read(5, 9), gives("")}, line{read(3, 9), gives("one")}, line{read(3, 9), fails(api.ErrAgain)},
		line{shut(5), done()}, line{write(4, "x"), is(1)},
	)
}

func TestPipeErrorsInOrder(t *testing.T) {
	for objects := range 5 {
		k := bootLimited(t, withLimit(2, objects))
		want := []answer{fails(api.ErrFull), fails(api.ErrFull), fails(api.ErrFull)}
		for i := range objects / 2 {
			want[i] = both(3+2*i, 4+2*i)
		}
		for _, a := range want[:2] {
			play(t, "P11", k, line{pipe(), a})
		}
		checkUsed(t, k, objects/2*2, 0, 0)
	}
	for objects := range 3 {
		k := bootLimited(t, withLimit(2, objects))
		for fd := 3; fd < 7; fd++ {
			play(t, "P11", k, line{dup(0), is(fd)})
		}
		play(t, "P11: ErrFds ahead of ErrFull", k, line{pipe(), fails(api.ErrFds)}, line{dup(0), is(7)}, line{pipe(), fails(api.ErrFds)}, line{shut(2), done()}, line{shut(5), done()})
		if objects < 2 {
			play(t, "P11", k, line{pipe(), fails(api.ErrFull)})
		} else {
			play(t, "P11", k, line{pipe(), both(2, 5)})
		}
	}
	k := bootLimited(t, withLimit(2, 3), file("/f", ""))
	play(t, "P11: files and pipes have the same objects", k,
		line{open("/f", 0), is(3)}, line{open("/f", 0), is(4)}, line{pipe(), fails(api.ErrFull)}, line{shut(3), done()}, line{pipe(), both(3, 5)},
		line{open("/f", 0), fails(api.ErrFull)}, line{shut(3), done()}, line{open("/f", 0), is(3)}, line{pipe(), fails(api.ErrFull)},
	)
}
