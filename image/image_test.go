package image

import (
	"bytes"
	"errors"
	"math/rand/v2"
	"reflect"
	"strings"
	"testing"

	"tinyos/api"
)

func pages(numbers ...int) []api.Page {
	var list []api.Page
	for _, n := range numbers {
		list = append(list, api.Page{Number: n, Perm: 6, Bytes: [256]byte{byte(n), 255: 7}})
	}
	return list
}

// sample is a tree with something of everything: its root is process 4.
func sample() Tree {
	const a, b, c, d, e, f = Objects, Objects + 1, Objects + 2, Objects + 3, Objects + 4, Objects + 5
	return Tree{
		Procs: []Proc{
			{api.Proc{PID: 2, Parent: 4, PC: 1 << 63, Regs: [16]uint64{1, 1 << 40, 15: ^uint64(0)}, Pages: pages(0, 1, 255)}, [8]int{Console, a, b, Free, a, Free, c, Console}},
			{api.Proc{PID: 3, Parent: 2, State: api.Zombie, Status: 255, PC: 3}, [8]int{}},
			{api.Proc{PID: 4, State: api.Sleeping, Left: 1 << 20, Pages: pages(254)}, [8]int{b, d, e, f}},
			{api.Proc{PID: 16, Parent: 4, State: api.Ready, Pages: pages(3)}, [8]int{7: e}},
		},
		Objects: []Object{
			{Kind: Named, Path: "/some/path", Offset: 65536},
			{Kind: WriteEnd, Which: 0},
			{Kind: Nameless, Which: 0, Offset: 3},
			{Kind: Nameless, Which: 1, Offset: 100000},
			{Kind: ReadEnd, Which: 1},
			{Kind: ReadEnd, Which: 0},
		},
		Files: [][]byte{[]byte("nameless"), []byte("\x00\xff")},
		Pipes: [][]byte{bytes.Repeat([]byte("p"), 64), []byte("other")},
	}
}

func TestThereAndBack(t *testing.T) {
	one := Tree{Procs: []Proc{{Proc: api.Proc{PID: 2, Pages: pages(254, 255)}}}}
	for _, want := range []Tree{sample(), one} {
		b := Encode(want)
		if !bytes.Equal(b, Encode(want)) {
			t.Error("two images of a tree differ")
		}
		got, err := Decode(b)
		if err != nil || !reflect.DeepEqual(got, want) {
			t.Errorf("Decode: %v: %+v, want %+v", err, got, want)
		}
	}
	if got := sample().Root(); got != 4 {
		t.Errorf("the root is %d, want 4", got)
	}
}

// TestAppendToAPiece: what is appended to a piece of an image doesn't go into the image.
func TestAppendToAPiece(t *testing.T) {
	b := Encode(sample())
	want := bytes.Clone(b)
	tree, err := Decode(b)
	if err != nil {
		t.Fatalf("Decode: %v", err)
	}
	for _, piece := range append(tree.Files, tree.Pipes...) {
		_ = append(piece, "more"...)
	}
	if !bytes.Equal(b, want) {
		t.Error("an image was written into")
	}
}

// wrongTrees are changes after which a tree is none.
func wrongTrees() map[string]func(t *Tree) {
	return map[string]func(t *Tree){
		"no process":               func(t *Tree) { t.Procs = nil; t.Objects = nil; t.Files = nil; t.Pipes = nil },
		"no root":                  func(t *Tree) { t.Procs[2].Parent = 2 },
		"two roots":                func(t *Tree) { t.Procs[3].Parent = 0 },
		"its own parent":           func(t *Tree) { t.Procs[3].Parent = 16 },
		"each other's parent":      func(t *Tree) { t.Procs[0].Parent = 16; t.Procs[3].Parent = 2 },
		"a parent outside":         func(t *Tree) { t.Procs[3].Parent = 5 },
		"parent 1":                 func(t *Tree) { t.Procs[3].Parent = 1 },
		"a zombie's child":         func(t *Tree) { t.Procs[3].Parent = 3 },
		"process 1":                func(t *Tree) { t.Procs[0].PID = 1; t.Procs[1].Parent = 1 },
		"process 0":                func(t *Tree) { t.Procs[0].PID = 0; t.Procs[1].Parent = 4 },
		"process 17":               func(t *Tree) { t.Procs[3].PID = 17 },
		"a number twice":           func(t *Tree) { t.Procs[3].PID = 4 },
		"not by numbers":           func(t *Tree) { t.Procs[1].PID = 5 },
		"no state":                 func(t *Tree) { t.Procs[0].State = 3 },
		"a status of one ready":    func(t *Tree) { t.Procs[0].Status = 1 },
		"ticks of one ready":       func(t *Tree) { t.Procs[0].Left = 1 },
		"a status of a sleeper":    func(t *Tree) { t.Procs[2].Status = 1 },
		"a sleeper without ticks":  func(t *Tree) { t.Procs[2].Left = 0 },
		"too many ticks":           func(t *Tree) { t.Procs[2].Left++ },
		"ticks of a zombie":        func(t *Tree) { t.Procs[1].Left = 1 },
		"pages of a zombie":        func(t *Tree) { t.Procs[1].Pages = pages(1) },
		"descriptors of a zombie":  func(t *Tree) { t.Procs[1].Of[0] = Console },
		"a page twice":             func(t *Tree) { t.Procs[0].Pages[1].Number = 0 },
		"pages not by numbers":     func(t *Tree) { t.Procs[0].Pages[1].Number = 2; t.Procs[0].Pages[2].Number = 1 },
		"a page for nothing":       func(t *Tree) { t.Procs[0].Pages[1].Perm = 0 },
		"a page for 8":             func(t *Tree) { t.Procs[0].Pages[1].Perm = 8 },
		"to write and execute":     func(t *Tree) { t.Procs[0].Pages[1].Perm = 3 },
		"an object that isn't":     func(t *Tree) { t.Procs[3].Of[0] = Objects + 6 },
		"objects not as met":       func(t *Tree) { t.Procs[0].Of[1] = Objects + 1; t.Procs[0].Of[2] = Objects },
		"an object of nobody":      func(t *Tree) { t.Objects = append(t.Objects, Object{Path: "/x"}) },
		"no kind":                  func(t *Tree) { t.Objects[0].Kind = 4 },
		"an empty path":            func(t *Tree) { t.Objects[0].Path = "" },
		"no path":                  func(t *Tree) { t.Objects[0].Path = "some/path" },
		"a long path":              func(t *Tree) { t.Objects[0].Path = strings.Repeat("/x", 31) },
		"an offset":                func(t *Tree) { t.Objects[0].Offset = 100001 },
		"a nameless file's offset": func(t *Tree) { t.Objects[3].Offset = 100001 },
		"files not as met":         func(t *Tree) { t.Objects[2].Which = 1; t.Objects[3].Which = 0 },
		"a file that isn't":        func(t *Tree) { t.Objects[3].Which = 2 },
		"a file of nobody":         func(t *Tree) { t.Files = append(t.Files, nil) },
		"pipes not as met":         func(t *Tree) { t.Objects[1].Which = 1; t.Objects[4].Which = 0 },
		"a pipe that isn't":        func(t *Tree) { t.Objects[5].Which = 2 },
		"a pipe of nobody":         func(t *Tree) { t.Pipes = append(t.Pipes, nil) },
		"an end twice":             func(t *Tree) { t.Objects[5].Which = 1 },
		"the other end twice":      func(t *Tree) { t.Objects[5].Kind = WriteEnd },
		"too many bytes in a pipe": func(t *Tree) { t.Pipes[1] = make([]byte, 65) },
		"too many bytes in all":    func(t *Tree) { t.Files[0] = make([]byte, 1<<16) },
	}
}

func TestWrongTrees(t *testing.T) {
	for name, change := range wrongTrees() {
		tree := sample()
		change(&tree)
		got, err := Decode(Encode(tree))
		if !errors.Is(err, api.ErrImage) || !reflect.DeepEqual(got, Tree{}) {
			t.Errorf("%s: %v, want ErrImage", name, err)
		}
	}
}

// TestGreatestImage: as many bytes as a file may have.
func TestGreatestImage(t *testing.T) {
	tree := sample()
	tree.Files[1] = nil
	size := len(Encode(tree))
	for count, want := range map[int]error{1<<16 - size: nil, 1<<16 - size + 1: api.ErrImage} {
		tree.Files[1] = make([]byte, count)
		if _, err := Decode(Encode(tree)); err != want {
			t.Errorf("an image of %d bytes: %v, want %v", size+count, err, want)
		}
	}
}

// TestHead: bytes are no image without the head that is theirs.
func TestHead(t *testing.T) {
	b := Encode(sample())
	for _, x := range [][]byte{nil, b[:headSize], b[:headSize-1], b[headSize:], b[:len(b)-1], append(bytes.Clone(b), 0), seal(nil), seal(b[:headSize]), seal(b)} {
		if _, err := Decode(x); !errors.Is(err, api.ErrImage) {
			t.Errorf("%d bytes: %v, want ErrImage", len(x), err)
		}
	}
}

// TestSealedBytes has heads that are right ahead of bytes that are perhaps not: they are an image just if they are the image of what is read.
func TestSealedBytes(t *testing.T) {
	body, ok := unseal(Encode(sample()))
	if !ok {
		t.Fatal("unseal")
	}
	check := func(body []byte) {
		t.Helper()
		b := seal(body)
		tree, err := Decode(b)
		if err != nil && !errors.Is(err, api.ErrImage) {
			t.Fatalf("Decode: %v", err)
		}
		if err == nil && !bytes.Equal(Encode(tree), b) {
			t.Fatalf("another image was read as %+v", tree)
		}
	}
	for at := range body {
		for _, x := range []byte{0, 1, 2, 3, 16, 64, 127, 128, 254, 255, body[at] + 1, body[at] - 1} {
			changed := bytes.Clone(body)
			changed[at] = x
			check(changed)
		}
		if _, err := Decode(seal(body[:at])); !errors.Is(err, api.ErrImage) {
			t.Fatalf("%d bytes behind a head: %v, want ErrImage", at, err)
		}
	}
	r := rand.New(rand.NewPCG(1, 17))
	for range 2000 {
		b := make([]byte, r.IntN(500))
		for i := range b {
			b[i] = byte(r.IntN(256) >> r.IntN(9))
		}
		check(b)
	}
}

func TestSum(t *testing.T) {
	for text, want := range map[string]uint64{"": 0xcbf29ce484222325, "a": 0xaf63dc4c8601ec8c, "foobar": 0x85944171f73967e8} {
		if got := sum([]byte(text)); got != want {
			t.Errorf("sum(%q) = %#x, want %#x", text, got, want)
		}
	}
}
