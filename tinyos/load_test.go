package tinyos_test

import (
	"bytes"
	"math"
	"math/rand/v2"
	"slices"
	"testing"

	"tinyos/api"
	"tinyos/tinyos"
)

// part is what an executable tells of a segment.
type part struct {
	kind, perm                     uint64
	offset, addr, inFile, inMemory uint64
}

func put(b []byte, at, size int, n uint64) {
	for i := range size {
		b[at+i] = byte(n >> (8 * i))
	}
}

func get(b []byte, at, size int) uint64 {
	n := uint64(0)
	for i := range size {
		n |= uint64(b[at+i]) << (8 * i)
	}
	return n
}

// executable makes a file of so many bytes, none of them 0 where it does not matter.
func executable(size int, entry uint64, parts ...part) []byte {
	b := make([]byte, max(size, 64+56*len(parts)))
	for i := range b {
		b[i] = byte(i%255 + 1)
	}
	copy(b, "\x7fELF\x02\x01\x01")
	put(b, 16, 2, 2)
	put(b, 18, 2, 243)
	put(b, 20, 4, 1)
	put(b, 24, 8, entry)
	put(b, 32, 8, 64)
	put(b, 52, 2, 64)
	put(b, 54, 2, 56)
	put(b, 56, 2, uint64(len(parts)))
	for i, p := range parts {
		at := 64 + 56*i
		put(b, at, 4, p.kind)
		put(b, at+4, 4, p.perm)
		put(b, at+8, 8, p.offset)
		put(b, at+16, 8, p.addr)
		put(b, at+32, 8, p.inFile)
		put(b, at+40, 8, p.inMemory)
	}
	return b
}

// wantPages makes the pages of a right executable byte by byte.
func wantPages(b []byte) []api.Page {
	space := map[int]*api.Page{}
	for i := range int(get(b, 56, 2)) {
		at := 64 + 56*i
		perm, offset, addr := get(b, at+4, 4), get(b, at+8, 8), get(b, at+16, 8)
		inFile, inMemory := get(b, at+32, 8), get(b, at+40, 8)
		for k := range inMemory {
			n := int((addr + k) / 256)
			if space[n] == nil {
				space[n] = &api.Page{Number: n, Perm: api.Perm(perm)}
			}
			if k < inFile {
				space[n].Bytes[(addr+k)%256] = b[offset+k]
			}
		}
	}
	var pages []api.Page
	for n := range 256 {
		if space[n] != nil {
			pages = append(pages, *space[n])
		}
	}
	return pages
}

func checkLoads(t *testing.T, name string, b []byte) {
	t.Helper()
	plan, err := tinyos.Load(b)
	if err != nil {
		t.Errorf("P4: %s: %v, want a plan", name, err)
		return
	}
	if want := get(b, 24, 8); plan.Entry != want {
		t.Errorf("P4: %s: the entry is %#x, want %#x", name, plan.Entry, want)
	}
	want := wantPages(b)
	if len(plan.Pages) != len(want) {
		t.Errorf("P4: %s: %d pages, want %d", name, len(plan.Pages), len(want))
		return
	}
	for i, p := range plan.Pages {
		if p.Number != want[i].Number || p.Perm != want[i].Perm {
			t.Errorf("P4: %s: page %d may %d, want page %d that may %d", name, p.Number, p.Perm, want[i].Number, want[i].Perm)
		} else if p.Bytes != want[i].Bytes {
			t.Errorf("P4: %s: page %d has % x, want % x", name, p.Number, p.Bytes, want[i].Bytes)
		}
	}
}

func checkFails(t *testing.T, name string, b []byte, want api.Errno) {
	t.Helper()
	plan, err := tinyos.Load(b)
	if api.Tell(err) != want {
		t.Errorf("P4: %s: %v, want error %d", name, err, want)
	}
	if plan.Entry != 0 || plan.Pages != nil {
		t.Errorf("P1: %s: a plan of %d pages beside an error", name, len(plan.Pages))
	}
}

// text and data are two segments that are right together, in a file of 2048 bytes.
var (
	text = part{1, 5, 0x204, 0x1104, 0x130, 0x130}
	data = part{1, 6, 0x3f0, 0x20f0, 0x40, 0x345}
)

func right() []byte { return executable(2048, 0x1108, text, data) }

// change is right with other bytes at a place.
func change(at, size int, n uint64) []byte {
	b := right()
	put(b, at, size, n)
	return b
}

func TestLoadPlans(t *testing.T) {
	for _, x := range []struct {
		name  string
		size  int
		entry uint64
		parts []part
	}{
		{"two segments", 2048, 0x1108, []part{text, data}},
		{"the later page ahead", 2048, 0x1108, []part{data, text}},
		{"nothing behind the segments' rows", 120, 0x100, []part{{1, 1, 0x78, 0x178, 0, 1}}},
		{"the rows' own bytes", 120, 0x100, []part{{1, 5, 0, 0x100, 120, 120}}},
		{"no bytes at the file's end", 0x300, 0, []part{{1, 1, 0x300, 0, 0, 1}}},
		{"bytes up to the file's end", 0x345, 0, []part{{1, 1, 0x300, 0, 0x45, 0x45}}},
		{"page 0, one byte", 0x300, 0xfc, []part{{1, 5, 0x200, 0, 1, 1}}},
		{"a page's last byte", 0x300, 0xfc, []part{{1, 5, 0x1ff, 0xff, 1, 1}}},
		{"one page, to the byte", 0x400, 0xfc, []part{{1, 5, 0x200, 0, 0x100, 0x100}}},
		{"one byte over a page", 0x400, 0x1fc, []part{{1, 5, 0x200, 0, 0x101, 0x101}}},
		{"one byte of memory over a page", 0x400, 0x1fc, []part{{1, 5, 0x200, 0, 0x100, 0x101}}},
		{"the last byte below the stack", 0x400, 0xfdfc, []part{{1, 5, 0x1ff, 0xfdff, 1, 1}}},
		{"all below the stack", 0x400, 0xfdfc, []part{{1, 5, 0x100, 0, 0x300, 0xfe00}}},
		{"all below the stack, in the file too", 0x10000, 0xfdfc, []part{{1, 1, 0x200, 0, 0xfe00, 0xfe00}}},
		{"pages beside each other", 0x400, 0x200, []part{{1, 6, 0x100, 0x100, 0x100, 0x100}, {1, 1, 0x200, 0x200, 0x100, 0x100}, {1, 4, 0x100, 0x300, 1, 0x100}}},
		{"the same bytes twice", 0x400, 0x100, []part{{1, 5, 0x100, 0x100, 0x80, 0x80}, {1, 4, 0x100, 0x200, 0x80, 0x80}}},
		{"two that may be executed, the entry in the second", 0x400, 0x400, []part{{1, 5, 0x100, 0x100, 8, 8}, {1, 1, 0x100, 0x400, 8, 8}}},
		{"what may be done: 1, 2, 4, 5, 6", 0x400, 0x100, []part{{1, 1, 0x100, 0x100, 8, 8}, {1, 2, 0x100, 0x200, 8, 8}, {1, 4, 0x100, 0x300, 8, 8}, {1, 5, 0x100, 0x400, 8, 8}, {1, 6, 0x100, 0x500, 8, 8}}},
	} {
		checkLoads(t, x.name, executable(x.size, x.entry, x.parts...))
	}
}

func TestLoadCounts(t *testing.T) {
	for n := range 12 {
		var parts []part
		for i := range n {
			parts = append(parts, part{1, 5, 0x300, uint64(0x100 * (20 - i)), 7, 9})
		}
		b := executable(2048, 0x1400, parts...)
		switch {
		case n >= 1 && n <= 8:
			checkLoads(t, "some segments", b)
			checkFails(t, "a byte of the rows is missing", b[:64+56*n-1], api.ErrHeader)
		default:
			checkFails(t, "too few or too many segments", b, api.ErrHeader)
		}
	}
}

func TestLoadShort(t *testing.T) {
	b := right()
	for n := range 64 + 2*56 {
		checkFails(t, "a header, or rows, cut short", b[:n], api.ErrHeader)
	}
	for n := 64 + 2*56; n < 0x430; n++ {
		checkFails(t, "a segment cut short", b[:n], api.ErrSegment)
	}
	for n := 0x430; n <= len(b); n++ {
		checkLoads(t, "bytes behind all segments", b[:n])
	}
}

func TestLoadHeader(t *testing.T) {
	matters := func(at int) bool {
		return at < 7 || at >= 16 && at < 24 || at >= 32 && at < 40 || at >= 52 && at < 58
	}
	for at := range 64 {
		if at >= 24 && at < 32 { // the entry
			continue
		}
		for bit := range 8 {
			b := right()
			b[at] ^= 1 << bit
			switch {
			case at == 56 && bit < 4: // 3, 0, 6, 10 segments
				continue
			case matters(at):
				checkFails(t, "a bit of the header turned", b, api.ErrHeader)
			default:
				checkLoads(t, "a bit that does not matter", b)
			}
		}
	}
}

func TestLoadSegmentRows(t *testing.T) {
	for i := range 2 {
		at := 64 + 56*i
		for _, x := range []struct {
			name     string
			at, size int
			n        uint64
		}{
			{"the number 0", 0, 4, 0}, {"the number 2", 0, 4, 2}, {"the number 1 and more", 0, 4, 0x101}, {"the number 1 and much more", 0, 4, 0x80000001},
			{"nothing may be done", 4, 4, 0}, {"to write and to execute", 4, 4, 3}, {"all may be done", 4, 4, 7}, {"more may be done", 4, 4, 8},
			{"5 and more", 4, 4, 0x105}, {"5 and much more", 4, 4, 0x80000005}, {"all bits", 4, 4, math.MaxUint32},
			{"no bytes in memory", 40, 8, 0}, {"fewer bytes in memory than in the file", 40, 8, 0x3f},
			{"more bytes in the file than in memory", 32, 8, 0x346},
			{"an offset that leaves something else", 8, 8, 0x205}, {"an address that leaves something else", 16, 8, 0x1105},
			{"an offset behind the file", 8, 8, 0x10004}, {"the greatest offset", 8, 8, math.MaxUint64},
			{"the greatest address", 16, 8, math.MaxUint64},
			{"the most bytes in the file", 32, 8, math.MaxUint64}, {"the most bytes in memory", 40, 8, math.MaxUint64},
			{"more bytes in memory than there are", 40, 8, 0x10000}, {"2^32 bytes in memory", 40, 8, 1 << 32}, {"2^63 bytes in memory", 40, 8, 1 << 63},
		} {
			checkFails(t, x.name, change(at+x.at, x.size, x.n), api.ErrSegment)
		}
		for _, x := range []int{24, 25, 31, 48, 49, 55} {
			checkLoads(t, "a byte that does not matter", change(at+x, 1, 0))
			checkLoads(t, "a byte that does not matter", change(at+x, 1, 255))
		}
	}
}

func TestLoadSegmentEdges(t *testing.T) {
	code := part{1, 5, 0x200, 0x100, 4, 4}
	for _, x := range []struct {
		name string
		p    part
		want api.Errno
	}{
		{"right", part{1, 4, 0x310, 0x410, 0xf0, 0xf0}, 0},
		{"one byte behind the file", part{1, 4, 0x310, 0x410, 0xf1, 0xf1}, api.ErrSegment},
		{"no bytes, at the file's end", part{1, 4, 0x400, 0x400, 0, 1}, 0},
		{"no bytes, behind the file's end", part{1, 4, 0x500, 0x400, 0, 1}, api.ErrSegment},
		{"no bytes, one behind the file's end", part{1, 4, 0x401, 0x401, 0, 1}, api.ErrSegment},
		{"no bytes, far behind the file's end", part{1, 4, 0xffffffffffffff00, 0x400, 0, 1}, api.ErrSegment},
		{"offset and bytes wrap round to 0", part{1, 4, 0xffffffffffffff00, 0x400, 0x100, 0x100}, api.ErrSegment},
		{"offset and bytes wrap round", part{1, 4, 0xffffffffffffff00, 0x400, 0x200, 0x200}, api.ErrSegment},
		{"bytes in the file wrap round", part{1, 4, 0x300, 0x400, 0xffffffffffffff00, 0xffffffffffffff00}, api.ErrSegment},
		{"an offset of 2^32 and more", part{1, 4, 0x100000300, 0x400, 1, 1}, api.ErrSegment},
		{"up to the stack", part{1, 4, 0x300, 0xfd00, 0, 0x100}, 0},
		{"one byte into the stack", part{1, 4, 0x300, 0xfd00, 0, 0x101}, api.ErrSegment},
		{"in the stack", part{1, 4, 0x300, 0xfe00, 0, 1}, api.ErrSegment},
		{"in the stack's second page", part{1, 4, 0x300, 0xff00, 1, 1}, api.ErrSegment},
		{"behind the stack", part{1, 4, 0x300, 0x10000, 1, 1}, api.ErrSegment},
		{"behind the stack, 2^16 on", part{1, 4, 0x300, 0x10400, 1, 1}, api.ErrSegment},
		{"an address of 2^32 and more", part{1, 4, 0x300, 0x100000400, 1, 1}, api.ErrSegment},
		{"address and bytes wrap round", part{1, 4, 0x300, 0xffffffffffffff00, 1, 0x200}, api.ErrSegment},
		{"address and bytes wrap round to 0", part{1, 4, 0x300, 0xffffffffffffff00, 1, 0x100}, api.ErrSegment},
		{"bytes in memory wrap round", part{1, 4, 0x300, 0x400, 1, 0xffffffffffffff00}, api.ErrSegment},
		{"no bytes at all", part{1, 4, 0x300, 0x400, 0, 0}, api.ErrSegment},
		{"the same in the lowest 4 bits only", part{1, 4, 0x310, 0x400, 1, 1}, api.ErrSegment},
		{"the same in the lowest 7 bits only", part{1, 4, 0x380, 0x400, 1, 1}, api.ErrSegment},
		{"the same in the lowest 8 bits", part{1, 4, 0x3ff, 0x4ff, 1, 1}, 0},
	} {
		for _, b := range [][]byte{executable(0x400, 0x100, code, x.p), executable(0x400, 0x100, x.p, code)} {
			if x.want == 0 {
				checkLoads(t, x.name, b)
			} else {
				checkFails(t, x.name, b, x.want)
			}
		}
	}
}

func TestLoadOverlap(t *testing.T) {
	code := part{1, 5, 0x200, 0x1000, 0x80, 0x280} // pages 16 to 18
	for _, x := range []struct {
		name       string
		addr, size uint64
		want       api.Errno
	}{
		{"the page ahead", 0xf00, 0x100, 0},
		{"one byte too many ahead", 0xf00, 0x101, api.ErrOverlap},
		{"the first page", 0x1000, 1, api.ErrOverlap},
		{"the page between", 0x1100, 0x100, api.ErrOverlap},
		{"the last page, behind its bytes", 0x12ff, 1, api.ErrOverlap},
		{"the page behind", 0x1300, 0x100, 0},
		{"all around", 0xf00, 0x600, api.ErrOverlap},
		{"the same", 0x1000, 0x280, api.ErrOverlap},
		{"far away", 0x8000, 0x100, 0},
	} {
		other := part{1, 4, 0x300 + x.addr%256, x.addr, 0, x.size}
		far := part{1, 4, 0x200, 0x4000, 1, 1}
		for _, parts := range [][]part{{code, other}, {other, code}, {code, far, other}, {other, far, code}, {far, other, code}} {
			b := executable(0x400, 0x1000, parts...)
			if x.want == 0 {
				checkLoads(t, x.name, b)
			} else {
				checkFails(t, x.name, b, x.want)
			}
		}
	}
	same := part{1, 5, 0x200, 0x1000, 4, 4}
	checkFails(t, "a page in common of two that may do the same", executable(0x400, 0x1000, same, part{1, 5, 0x280, 0x1080, 4, 4}), api.ErrOverlap)
}

func TestLoadEntry(t *testing.T) {
	// right has pages 17 and 18 to execute, from 0x1104 to 0x1233, and 32 to 36 to read and write.
	for _, entry := range []uint64{0x1100, 0x1104, 0x11fc, 0x1200, 0x1234, 0x12fc} {
		checkLoads(t, "an entry in a page to execute", change(24, 8, entry))
	}
	for _, entry := range []uint64{
		0x1101, 0x1102, 0x1103, 0x1105, 0x1107, 0x12ff, 0, 0x10fc, 0x1300, 0x2000, 0x20f0, 0x2400, 0xfdfc, 0xfe00, 0xfffc,
		0x11108, 0x100001108, 0x8000000000001108, math.MaxUint64, math.MaxUint64 - 3,
	} {
		checkFails(t, "an entry that is none", change(24, 8, entry), api.ErrEntry)
	}
	for _, perm := range []uint64{2, 4, 6} {
		checkFails(t, "an entry in a page not to execute", executable(0x400, 0x100, part{1, perm, 0x200, 0x100, 4, 4}), api.ErrEntry)
	}
}

func TestLoadFirstError(t *testing.T) {
	bad, over := data, data
	bad.kind = 2
	over.addr = 0x11f0
	header := executable(2048, 1, text, over, bad)
	put(header, 54, 2, 57)
	checkFails(t, "all is wrong", header, api.ErrHeader)
	checkFails(t, "segment, overlap and entry", executable(2048, 1, text, over, bad), api.ErrSegment)
	checkFails(t, "segment ahead, overlap and entry", executable(2048, 1, bad, text, over), api.ErrSegment)
	checkFails(t, "overlap and entry", executable(2048, 1, text, over), api.ErrOverlap)
	checkFails(t, "entry", executable(2048, 1, text, data), api.ErrEntry)
}

func TestLoadAnyBytes(t *testing.T) {
	r := rand.New(rand.NewPCG(1, 2))
	values := []uint64{0, 1, 2, 3, 4, 255, 256, 257, 0xfdff, 0xfe00, 0x10000, 1 << 31, 1 << 32, 1 << 63, math.MaxUint64, math.MaxUint64 - 255}
	for range 20000 {
		b := right()
		for range 1 + r.IntN(4) {
			size := 1 << r.IntN(4)
			put(b, r.IntN(64+2*56-size), size, values[r.IntN(len(values))])
		}
		if r.IntN(8) == 0 {
			b = b[:r.IntN(len(b))]
		}
		plan, err := tinyos.Load(b)
		switch n := api.Tell(err); {
		case n == api.OK:
			checkLoads(t, "bytes by chance", b)
		case n < api.ErrHeader || n > api.ErrEntry:
			t.Fatalf("P4: % x: %v", b[:min(len(b), 176)], err)
		case plan.Entry != 0 || plan.Pages != nil:
			t.Fatalf("P1: % x: a plan beside an error", b[:min(len(b), 176)])
		}
	}
	for n := range 300 {
		checkFails(t, "zeros", make([]byte, n), api.ErrHeader)
		checkFails(t, "ones", bytes.Repeat([]byte{255}, n), api.ErrHeader)
	}
}

func TestLoadKeepsNothing(t *testing.T) {
	room := append(right(), bytes.Repeat([]byte{0xee}, 512)...)
	before := slices.Clone(room)
	b := room[:2048]
	for _, cut := range []int{2048, 0x430, 0x42f, 100, 10} { // with and without errors
		tinyos.Load(b[:cut])
		if !bytes.Equal(room, before) {
			t.Fatalf("P2: Load of %d bytes wrote into what was handed in", cut)
		}
	}
	first, err := tinyos.Load(b)
	if err != nil {
		t.Fatal(err)
	}
	pages := slices.Clone(first.Pages)
	clear(room)
	if !slices.Equal(first.Pages, pages) {
		t.Error("P2: a plan changed with the bytes that it was made of")
	}
	copy(room, before)
	for i := range first.Pages {
		first.Pages[i] = api.Page{Number: -1}
	}
	if !bytes.Equal(room, before) {
		t.Error("P2: a plan shares memory with the bytes that it was made of")
	}
	if second, err := tinyos.Load(b); err != nil || !slices.Equal(second.Pages, pages) {
		t.Error("P2: a plan is another one after an earlier one was written into")
	}
}
