package stream

import "tinyos/api"

// Console is what was typed and not read yet, and what was written and not told yet.
type Console struct{ typed, written queue }

// Type adds to what is to be read.
func (c *Console) Type(b []byte) { c.typed.add(b) }

// Tell takes all that was written.
func (c *Console) Tell() []byte { return c.written.take(len(c.written.bytes)) }

// Read answers what was typed first; ErrAgain, if there is nothing yet.
func (c *Console) Read(most int) ([]byte, error) {
	if c.typed.isEmpty() && most > 0 {
		return nil, api.ErrAgain
	}
	return c.typed.take(most), nil
}

// Write takes all bytes.
func (c *Console) Write(b []byte) (int, error) {
	c.written.add(b)
	return len(b), nil
}

// Close does nothing: the console is there without a descriptor too.
func (c *Console) Close() {}

// Bond is none, for the console is everybody's.
func (c *Console) Bond() any { return nil }
