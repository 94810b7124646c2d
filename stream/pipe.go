package stream

import "tinyos/api"

// pipe is what its two ends share.
type pipe struct {
	queue
	unread, unwritten bool // the end to read, or to write, is closed
}

// ReadEnd is the end of a pipe that is read.
type ReadEnd struct{ *pipe }

// WriteEnd is the end of a pipe that is written.
type WriteEnd struct{ *pipe }

// NewPipe makes an empty pipe and answers its ends.
func NewPipe() (*ReadEnd, *WriteEnd) {
	p := &pipe{}
	return &ReadEnd{p}, &WriteEnd{p}
}

// Read answers what was written first; ErrAgain, if there is nothing yet.
func (e *ReadEnd) Read(most int) ([]byte, error) {
	if e.isEmpty() && most > 0 && !e.unwritten {
		return nil, api.ErrAgain
	}
	return e.take(most), nil
}

// Write takes as many bytes as there is room for; ErrPipe, if nobody reads; ErrAgain, if there is no room yet.
func (e *WriteEnd) Write(b []byte) (int, error) {
	if e.unread {
		return 0, api.ErrPipe
	}
	room := api.PipeSize - len(e.bytes)
	if room == 0 && len(b) > 0 {
		return 0, api.ErrAgain
	}
	count := min(len(b), room)
	e.add(b[:count])
	return count, nil
}

// Close tells the other end that nobody reads.
func (e *ReadEnd) Close() { e.unread = true }

// Close tells the other end that nobody writes.
func (e *WriteEnd) Close() { e.unwritten = true }
