package mem

import (
	"bytes"
	"math"
	"testing"

	"tinyos/api"
)

func TestPerms(t *testing.T) {
	if Execute != 1 || Write != 2 || Read != 4 {
		t.Errorf("execute %d, write %d, read %d; want 1, 2, 4", Execute, Write, Read)
	}
}

func TestIsPerm(t *testing.T) {
	for n, want := range []bool{false, true, true, false, true, true, true, false, false, false} {
		if got := IsPerm(uint64(n)); got != want {
			t.Errorf("IsPerm(%d) = %v, want %v", n, got, want)
		}
	}
	if IsPerm(1<<32 + 4) {
		t.Error("IsPerm looks at some bits only")
	}
}

func TestNumber(t *testing.T) {
	for _, x := range []struct {
		b    []byte
		want uint64
	}{
		{nil, 0},
		{[]byte{7}, 7},
		{[]byte{0x34, 0x12}, 0x1234},
		{[]byte{1, 0, 0, 0x80}, 0x80000001},
		{[]byte{1, 2, 3, 4, 5, 6, 7, 0xff}, 0xff07060504030201},
	} {
		if got := Number(x.b); got != x.want {
			t.Errorf("Number(% x) = %#x, want %#x", x.b, got, x.want)
		}
	}
}

func TestPutWords(t *testing.T) {
	b := bytes.Repeat([]byte{0xee}, 18)
	PutWords(b, 0x0102030405060708, 0xff00000000000009)
	want := []byte{8, 7, 6, 5, 4, 3, 2, 1, 9, 0, 0, 0, 0, 0, 0, 0xff, 0xee, 0xee}
	if !bytes.Equal(b, want) {
		t.Errorf("PutWords wrote % x, want % x", b, want)
	}
	PutWords(b[:0])
	if !bytes.Equal(b, want) {
		t.Errorf("PutWords of no numbers wrote % x", b)
	}
}

func TestBreak(t *testing.T) {
	for _, x := range []struct {
		numbers []int
		want    int
	}{
		{nil, 0}, {[]int{0}, 1}, {[]int{3, 7}, 8}, {[]int{253}, 254}, {[]int{254, 255}, 0}, {[]int{1, 254}, 2},
	} {
		var pages []api.Page
		for _, n := range x.numbers {
			pages = append(pages, api.Page{Number: n, Perm: Execute})
		}
		s := NewSpace(pages...)
		if got := s.Break(); got != x.want {
			t.Errorf("pages %d: the break is %d, want %d", x.numbers, got, x.want)
		}
	}
}

func TestMay(t *testing.T) {
	s := NewSpace(api.Page{Number: 0, Perm: Read}, api.Page{Number: 1, Perm: Read | Write}, api.Page{Number: 255, Perm: Write})
	for _, x := range []struct {
		perm  api.Perm
		addr  uint64
		count int
		want  bool
	}{
		{Read, 0, 512, true}, {Read, 0, 513, false}, {Write, 255, 2, false}, {Write, 256, 256, true}, {Execute, 0, 1, false}, {Write, 0xff00, 256, true}, {Write, 0xff00, 257, false}, {Write, 0xffff, math.MaxInt, false},
		{Read, math.MaxUint64, 2, false}, {Read, 1 << 32, 1, false}, {Read, math.MaxUint64, 0, true}, {Write, 0, -1, true}, {Write, 0, math.MinInt, true},
	} {
		if got := s.May(x.perm, x.addr, x.count); got != x.want {
			t.Errorf("May(%d, %#x, %d) = %v, want %v", x.perm, x.addr, x.count, got, x.want)
		}
	}
}
