package tinyos_test

import (
	"slices"
	"strings"
	"testing"

	"tinyos/api"
	"tinyos/tinyos"
)

const (
	stackStart = 0xfe00
	spaceEnd   = 0x10000
)

// wantStack makes a stack address by address, by the document's words.
func wantStack(args []string) (map[int]byte, int) {
	memory := map[int]byte{}
	text := ""
	for _, a := range args {
		text += a + "\x00"
	}
	low := spaceEnd - len(text)
	for i := range len(text) {
		memory[low+i] = text[i]
	}
	numbers := []int{len(args)}
	at := low
	for _, a := range args {
		numbers = append(numbers, at)
		at += len(a) + 1
	}
	numbers = append(numbers, 0)
	sp := low
	for sp+8*len(numbers) > low || sp%16 != 0 {
		sp--
	}
	for i, n := range numbers {
		memory[sp+8*i] = byte(n)
		memory[sp+8*i+1] = byte(n / 256)
	}
	return memory, sp
}

func checkStack(t *testing.T, args []string) {
	t.Helper()
	pages, sp, err := tinyos.Stack(args)
	if err != nil || len(pages) != 2 {
		t.Fatalf("P5: Stack(%q): %d pages, %v", args, len(pages), err)
	}
	memory, wantSP := wantStack(args)
	if sp != uint64(wantSP) {
		t.Errorf("P5: Stack(%q): the stack pointer is %#x, want %#x", args, sp, wantSP)
	}
	for i, p := range pages {
		if p.Number != 254+i || p.Perm != 6 {
			t.Errorf("P5: Stack(%q): page %d has the number %d and may %d, want %d and 6", args, i, p.Number, p.Perm, 254+i)
		}
		for k, x := range p.Bytes {
			if at := stackStart + 256*i + k; x != memory[at] {
				t.Fatalf("P5: Stack(%q): at %#x stands %#x, want %#x", args, at, x, memory[at])
			}
		}
	}
}

func TestStackExamples(t *testing.T) {
	pages, sp, err := tinyos.Stack(nil)
	if err != nil || sp != 0xfff0 || len(pages) != 2 || pages[0].Bytes != pages[1].Bytes {
		t.Errorf("P5: Stack(no arguments): %d pages, the stack pointer %#x, %v", len(pages), sp, err)
	}
	pages, sp, err = tinyos.Stack([]string{"init"})
	if err != nil || sp != 0xffe0 || len(pages) != 2 {
		t.Fatalf("P5: Stack(init): %d pages, the stack pointer %#x, %v", len(pages), sp, err)
	}
	want := "\x01\x00\x00\x00\x00\x00\x00\x00" + "\xfb\xff\x00\x00\x00\x00\x00\x00" + strings.Repeat("\x00", 11) + "init\x00"
	if got := string(pages[1].Bytes[0xe0:]); got != want {
		t.Errorf("P5: Stack(init): %q, want %q", got, want)
	}
}

func TestStackArguments(t *testing.T) {
	long := strings.Repeat("x", 30)
	for _, args := range [][]string{
		nil, {}, {""}, {"init"}, {"a", "bc", ""}, {"", "", ""}, {"same", "same"},
		{"\xff\xfe", "/", " ", "\x01"}, {long}, {long, ""}, {"", long},
		make([]string, 8), {"1", "22", "333", "4444", "55555", "666666", "7777777", "88888888"},
		slices.Repeat([]string{long}, 8),
	} {
		checkStack(t, args)
	}
}

func TestStackOfEveryLength(t *testing.T) {
	for count := 1; count <= 8; count++ {
		for size := 0; size <= 30; size++ {
			args := make([]string, count)
			for i := range args {
				args[i] = strings.Repeat(string(rune('a'+i)), (size+i)%31)
			}
			checkStack(t, args)
		}
	}
}

func TestStackWrong(t *testing.T) {
	for _, args := range [][]string{
		make([]string, 9), make([]string, 1000), slices.Repeat([]string{"x"}, 9),
		{strings.Repeat("x", 31)}, {strings.Repeat("x", 1<<16)}, {"a", "b", strings.Repeat("x", 31)}, {strings.Repeat("x", 31), "a"},
		{"\x00"}, {"a\x00"}, {"\x00a"}, {"a\x00b"}, {"a", "b\x00"}, {"a\x00", "b"}, {strings.Repeat("x", 29) + "\x00"},
		{"", "", "", "", "", "", "", "\x00"},
	} {
		if pages, sp, err := tinyos.Stack(args); api.Tell(err) != api.ErrArgs || pages != nil || sp != 0 {
			t.Errorf("P5: Stack(%.80q): %d pages, the stack pointer %#x, %v, want ErrArgs and nothing else", args, len(pages), sp, err)
		}
	}
}

func TestStackKeepsNothing(t *testing.T) {
	room := []string{"init", "one", "spare", "room"}
	args := room[:2]
	first, sp, err := tinyos.Stack(args)
	if err != nil {
		t.Fatal(err)
	}
	if !slices.Equal(room, []string{"init", "one", "spare", "room"}) {
		t.Errorf("P2: Stack wrote into its arguments: %q", room)
	}
	before := slices.Clone(first)
	args[0] = "else"
	if !slices.Equal(first, before) {
		t.Error("P2: a stack changed with the arguments that it was made of")
	}
	args[0] = "init"
	for i := range first {
		first[i] = api.Page{Number: -1}
	}
	second, sp2, err := tinyos.Stack(args)
	if err != nil || sp2 != sp || !slices.Equal(second, before) {
		t.Error("P2: a stack is another one after an earlier one was written into")
	}
}
