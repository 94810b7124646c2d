// Package stream: what descriptors are of: files, ends of pipes, and the console.
package stream

// Stream is what a descriptor is of: a *File, a *ReadEnd, a *WriteEnd, or the *Console.
type Stream interface {
	Close()    // no descriptor is of it any more
	Bond() any // what ties it to others: streams of the same one belong together; nil, if nothing does
}

// Reader is a stream that is read, at most so many bytes at a time.
type Reader interface {
	Stream
	Read(most int) ([]byte, error)
}

// Writer is a stream that is written. It tells how many of the bytes it took.
type Writer interface {
	Stream
	Write(b []byte) (int, error)
}
