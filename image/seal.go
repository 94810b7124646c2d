package image

import "bytes"

const (
	magic    = "tinyos 1"
	headSize = len(magic) + wide + word
)

// seal puts a head ahead of the bytes: without it they are no image.
func seal(body []byte) []byte { return append(head(body), body...) }

// unseal answers the bytes behind the head; false, if the head is not theirs.
func unseal(b []byte) ([]byte, bool) {
	if len(b) < headSize {
		return nil, false
	}
	body := b[headSize:]
	return body, bytes.Equal(b[:headSize], head(body))
}

// head tells how many bytes there are, so that none can be missing, and their sum.
func head(body []byte) []byte {
	w := &writer{[]byte(magic)}
	put(w, wide, len(body))
	put(w, word, sum(body))
	return w.bytes
}

// sum is FNV-1a: each byte turns a sum into another one in a way that can be undone, so two lists that differ in one byte never have the same.
func sum(b []byte) uint64 {
	const start, factor = 14695981039346656037, 1099511628211
	s := uint64(start)
	for _, x := range b {
		s = (s ^ uint64(x)) * factor
	}
	return s
}
