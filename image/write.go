package image

import "tinyos/api"

// Bytes that a number has in an image.
const (
	small = 1
	short = 2
	wide  = 4
	word  = 8
)

type integer interface{ ~int | ~uint8 | ~uint64 }

type writer struct{ bytes []byte }

// put writes numbers of one size, one behind the other, each with its lowest byte first.
func put[N integer](w *writer, size int, numbers ...N) {
	for _, n := range numbers {
		for i := range size {
			w.bytes = append(w.bytes, byte(uint64(n)>>(8*i)))
		}
	}
}

// Encode writes a tree as an image.
func Encode(t Tree) []byte {
	w := &writer{}
	put(w, small, len(t.Procs), len(t.Objects), len(t.Files), len(t.Pipes))
	for _, p := range t.Procs {
		w.proc(p)
	}
	for _, o := range t.Objects {
		w.object(o)
	}
	for _, b := range t.Files {
		w.list(b)
	}
	for _, b := range t.Pipes {
		w.list(b)
	}
	return seal(w.bytes)
}

func (w *writer) proc(p Proc) {
	put(w, small, p.PID, p.Parent, int(p.State), p.Status)
	put(w, wide, p.Left)
	put(w, word, p.PC)
	put(w, word, p.Regs[:]...)
	put(w, small, p.Of[:]...)
	put(w, short, len(p.Pages))
	for _, g := range p.Pages {
		w.page(g)
	}
}

func (w *writer) page(g api.Page) {
	put(w, small, g.Number, int(g.Perm))
	put(w, small, g.Bytes[:]...)
}

func (w *writer) object(o Object) {
	put(w, small, o.Kind)
	switch o.Kind {
	case Named:
		put(w, wide, o.Offset)
		w.list([]byte(o.Path))
	case Nameless:
		put(w, wide, o.Offset)
		fallthrough // which file it is stands there as which pipe it is does
	case ReadEnd, WriteEnd:
		put(w, small, o.Which)
	}
}

// list writes how many bytes there are, and the bytes.
func (w *writer) list(b []byte) {
	put(w, wide, len(b))
	w.bytes = append(w.bytes, b...)
}
