package tinyos_test

import (
	"bytes"
	"math/rand/v2"
	"strings"
	"testing"

	"tinyos/api"
	"tinyos/image"
	"tinyos/tinyos"
)

// trial is a kernel in which bytes are tried as an image: process 1 has them in /try, by its descriptor 3.
type trial struct {
	k      *tinyos.Kernel
	before whole
}

func newTrial(t *testing.T) trial {
	t.Helper()
	k := boot(t, loop(t), dir("/d"), file("/a", ""), file("/d/b", ""), file("/text", ""))
	playAll(t, "P9", k, turn{1, open("/try", 1), is(3)})
	return trial{k, tellAll(k)}
}

// restore answers what Restore does to these bytes.
func (x trial) restore(t *testing.T, b []byte) answer {
	t.Helper()
	playAll(t, "P9", x.k, turn{1, open("/try", 2), is(4)}, turn{1, shut(4), done()}, turn{1, seek(3, 0), done()})
	for len(b) > 0 {
		n := min(4096, len(b))
		playAll(t, "P9", x.k, turn{1, write(3, string(b[:n])), is(n)})
		b = b[n:]
	}
	return ask(t, x.k, 1, restore("/try"))
}

// check asks for bytes being no image.
func (x trial) check(t *testing.T, what string, n int, b []byte) {
	t.Helper()
	if got := x.restore(t, b); got != fails(api.ErrImage) {
		t.Fatalf("P17: %s, %d: %+v, want ErrImage", what, n, got)
	}
	if len(x.k.Procs()) != 1 {
		t.Fatalf("P1: %s, %d: processes %s", what, n, briefAll(x.k.Procs()))
	}
}

// end asks for nothing being left of what was tried.
func (x trial) end(t *testing.T) {
	t.Helper()
	playAll(t, "P9", x.k, turn{1, open("/try", 2), is(4)}, turn{1, shut(4), done()}, turn{1, seek(3, 0), done()})
	if !tellAll(x.k).same(x.before) {
		t.Fatalf("P1: something is left of bytes that are no image: used %+v, was %+v", x.k.Used(), x.before.used)
	}
}

// someImages are images of several trees, by names.
func someImages(t *testing.T) map[string][]byte {
	t.Helper()
	images := map[string][]byte{"laden": bytesOf(t, laden(t), "/i")}
	k := boot(t, loop(t), file("/text", "some text"))
	playAll(t, "P17", k,
		turn{1, fork(), is(2)}, turn{2, fork(), is(3)}, turn{3, exit(9), done()}, turn{2, checkpoint(3, "/zombie"), is(1)},
		turn{2, fork(), is(4)}, turn{4, sleep(3), done()}, turn{2, open("/text", 0), is(3)}, turn{2, dup(3), is(4)}, turn{2, pipe(), both(5, 6)}, turn{2, write(6, "abc"), is(3)}, turn{1, checkpoint(2, "/three"), is(3)},
	)
	images["zombie"] = bytesOf(t, k, "/zombie")
	images["three"] = bytesOf(t, k, "/three")
	return images
}

func TestOneBitTurned(t *testing.T) {
	for name, b := range someImages(t) {
		x := newTrial(t)
		for bit := range 8 * len(b) {
			turned := bytes.Clone(b)
			turned[bit/8] ^= 1 << (bit % 8)
			if bit/8 > 300 && bit%13 > 0 { // most are bytes of pages
				continue
			}
			x.check(t, name+" with a bit turned", bit, turned)
		}
		x.end(t)
		if got := x.restore(t, b); got.err != api.OK {
			t.Fatalf("P17: %s as it is: %+v", name, got)
		}
	}
}

// TestEachBitTurned has each bit of an image turned in its place.
func TestEachBitTurned(t *testing.T) {
	x := newTrial(t)
	b := someImages(t)["three"]
	x.restore(t, b)
	endTree(t, x.k, 2)
	for at := range b {
		for bit := range 8 {
			ask(t, x.k, 1, seek(3, at))
			ask(t, x.k, 1, write(3, string([]byte{b[at] ^ 1<<bit})))
			if got := ask(t, x.k, 1, restore("/try")); got != fails(api.ErrImage) {
				t.Fatalf("P17: bit %d of byte %d turned: %+v, want ErrImage", bit, at, got)
			}
		}
		ask(t, x.k, 1, seek(3, at))
		ask(t, x.k, 1, write(3, string(b[at:at+1])))
	}
	if got := bytesOf(t, x.k, "/try"); !bytes.Equal(got, b) {
		t.Fatal("the image is not as it was")
	}
	playAll(t, "P17", x.k, turn{1, restore("/try"), is(2)})
}

func TestBytesMissing(t *testing.T) {
	for name, b := range someImages(t) {
		x := newTrial(t)
		for n := range b {
			x.check(t, name+" cut off", n, b[:n])
		}
		for n := 1; n < len(b); n += 7 {
			x.check(t, name+" without its start", n, b[n:])
			x.check(t, name+" without a byte", n, append(bytes.Clone(b[:n]), b[n+1:]...))
		}
		x.end(t)
	}
}

func TestOtherBytes(t *testing.T) {
	x := newTrial(t)
	images := someImages(t)
	for name, b := range images {
		x.check(t, name+" with a byte behind it", 0, append(bytes.Clone(b), 0))
		x.check(t, name+" with a byte ahead of it", 0, append([]byte{0}, b...))
		x.check(t, name+" twice", 0, append(bytes.Clone(b), b...))
		x.check(t, name+" with bytes behind it", 0, append(bytes.Clone(b), strings.Repeat("x", 20000)...))
		for n := 1; n < len(b); n += 5 {
			x.check(t, name+" with a byte more", n, append(append(bytes.Clone(b[:n]), b[n-1]), b[n:]...))
			mixed := bytes.Clone(b)
			copy(mixed[n:], images["zombie"])
			if !bytes.Equal(mixed, b) {
				x.check(t, name+" with another in it", n, mixed)
			}
		}
	}
	r := rand.New(rand.NewPCG(17, 1))
	for n := range 400 {
		b := make([]byte, r.IntN(600))
		for i := range b {
			b[i] = byte(r.IntN(256))
		}
		x.check(t, "bytes by chance", n, b)
		x.check(t, "bytes by chance behind the start of an image", n, append(bytes.Clone(images["three"][:r.IntN(60)]), b...))
		x.check(t, "one byte", n, bytes.Repeat([]byte{byte(n)}, n/256+r.IntN(100)))
	}
	for _, b := range [][]byte{nil, loop(t), prog(t), []byte("some text"), make([]byte, 65536)} {
		x.check(t, "another file", len(b), b)
	}
	x.end(t)
	k := boot(t, loop(t), api.File{Path: "/i", Bytes: append(bytes.Clone(images["three"]), make([]byte, 80000)...)}, file("/text", ""))
	playAll(t, "P17", k, turn{1, restore("/i"), fails(api.ErrImage)})
}

// anyChange makes something of a tree other than it was, so that it is perhaps none.
func anyChange(r *rand.Rand, t *image.Tree) {
	n := anyOf(r, 0, 1, 2, 3, 4, 5, 8, 9, 16, 17, 64, 127, 128, 255, -1, 256, 65536, 1<<20+1, 1<<31)
	p := &t.Procs[r.IntN(len(t.Procs))]
	switch r.IntN(16) {
	case 0:
		p.PID = n
	case 1:
		p.Parent = n
	case 2:
		p.State = api.State(n)
	case 3:
		p.Status = n
	case 4:
		p.Left = n
	case 5, 6, 7:
		p.Of[r.IntN(8)] = n
	case 8:
		if len(p.Pages) > 0 {
			p.Pages[r.IntN(len(p.Pages))].Number = n
		}
	case 9:
		if len(p.Pages) > 0 {
			p.Pages[r.IntN(len(p.Pages))].Perm = api.Perm(n)
		}
	case 10:
		t.Procs = append(t.Procs, *p)
	case 11:
		t.Files = append(t.Files, make([]byte, max(0, n%3000)))
	case 12:
		t.Pipes = append(t.Pipes, make([]byte, max(0, n%300)))
	default:
		if len(t.Objects) == 0 {
			t.Objects = append(t.Objects, image.Object{})
		}
		o := &t.Objects[r.IntN(len(t.Objects))]
		*anyOf(r, &o.Which, &o.Offset) = n
		o.Kind = image.Kind(r.IntN(5))
		o.Path = anyOf(r, o.Path, "/a", "", "x", "/", "/d/b", "/no/where", strings.Repeat("/x", 31))
	}
}

// TestForgedImages: what Checkpoint could not have written is no image, even with a head that is right; whatever it is, nothing panics, and no limit is passed.
func TestForgedImages(t *testing.T) {
	var taken, refused int
	images := someImages(t)
	for seed := range uint64(3000) {
		r := rand.New(rand.NewPCG(18, seed))
		l := api.Limits{Procs: 5, Frames: 14, Objects: 6, Inodes: 11, Bytes: 80000}
		for name, b := range someForged(t, r, images) {
			k := bootLimited(t, l, dir("/d"), file("/a", "a"), file("/d/b", "b"), file("/text", "text"), api.File{Path: "/i", Bytes: b})
			before := tellAll(k)
			got := ask(t, k, 1, restore("/i"))
			if got.err != api.OK {
				refused++
				if got != fails(got.err) || !tellAll(k).same(before) {
					t.Fatalf("P1: %s: %+v, or something changed", name, got)
				}
				continue
			}
			taken++
			u := k.Used()
			if u.Procs > l.Procs || u.Frames > l.Frames || u.Objects > l.Objects || u.Inodes > l.Inodes || u.Bytes > l.Bytes {
				t.Fatalf("P16: %s: used %+v", name, u)
			}
			if u.Inodes+2 <= l.Inodes {
				again(t, k, got.n, "/j")
			}
		}
	}
	if taken == 0 || refused == 0 {
		t.Errorf("%d forged images were taken, %d refused", taken, refused)
	}
}

func someForged(t *testing.T, r *rand.Rand, images map[string][]byte) map[string][]byte {
	t.Helper()
	forged := map[string][]byte{}
	for name, b := range images {
		tree, err := image.Decode(b)
		if err != nil {
			t.Fatalf("P17: Decode: %v", err)
		}
		for range 1 + r.IntN(2) {
			anyChange(r, &tree)
		}
		forged[name] = image.Encode(tree)
	}
	return forged
}
