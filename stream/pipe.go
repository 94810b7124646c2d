package stream

import "tinyos/api"

// Pipe is what its two ends share.
type Pipe struct {
	queue
	unread, unwritten bool // the end to read, or to write, is closed
}

// ReadEnd is the end of a pipe that is read.
type ReadEnd struct{ *Pipe }

// WriteEnd is the end of a pipe that is written.
type WriteEnd struct{ *Pipe }

// NewPipe makes a pipe with these bytes in it, PipeSize at most, and answers its ends.
func NewPipe(b ...byte) (*ReadEnd, *WriteEnd) {
	p := &Pipe{}
	p.add(b)
	return &ReadEnd{p}, &WriteEnd{p}
}

// Bytes are those that are in it. They are to be read only.
func (p *Pipe) Bytes() []byte { return p.bytes }

// Bond is the pipe, for its ends are nothing one without the other.
func (p *Pipe) Bond() any { return p }

// Read answers what was written first; ErrAgain, if there is nothing yet.
func (e *ReadEnd) Read(most int) ([]byte, error) {
	if e.isEmpty() && most > 0 && !e.unwritten {
		return nil, api.ErrAgain
	}
	return e.take(most), nil
}

// Write takes as many bytes as there is room for; ErrPipe, if nobody reads; ErrAgain, if there is no room yet.
func (e *WriteEnd) Write(b []byte) (int, error) {
	if e.unread {
		return 0, api.ErrPipe
	}
	room := api.PipeSize - len(e.bytes)
	if room == 0 && len(b) > 0 {
		return 0, api.ErrAgain
	}
	count := min(len(b), room)
	e.add(b[:count])
	return count, nil
}

// Close tells the other end that nobody reads.
func (e *ReadEnd) Close() { e.unread = true }

// Close tells the other end that nobody writes.
func (e *WriteEnd) Close() { e.unwritten = true }
