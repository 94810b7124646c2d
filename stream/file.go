package stream

import (
	"slices"

	"tinyos/api"
	"tinyos/fs"
)

// File is an object of a file of a tree.
type File struct {
	tree   *fs.Tree
	node   *fs.Node
	offset int
}

// Open is a new object of a file.
func Open(tree *fs.Tree, node *fs.Node) *File {
	tree.Hold(node)
	return &File{tree: tree, node: node}
}

// Node is the file.
func (f *File) Node() *fs.Node { return f.node }

// Offset is where the next byte is read or written.
func (f *File) Offset() int { return f.offset }

// Seek sets the offset. It may be behind the file's end.
func (f *File) Seek(offset int) { f.offset = offset }

// Read answers bytes from the offset on.
func (f *File) Read(most int) ([]byte, error) {
	all := f.node.Bytes()
	rest := all[min(f.offset, len(all)):]
	b := slices.Clone(rest[:min(most, len(rest))])
	f.offset += len(b)
	return b, nil
}

// Write writes all of b from the offset on, or nothing.
func (f *File) Write(b []byte) (int, error) {
	if len(b) > 0 && max(f.offset+len(b), len(f.node.Bytes())) > api.MaxSeek {
		return 0, api.ErrFull
	}
	if err := f.tree.Write(f.node, f.offset, b); err != nil {
		return 0, err
	}
	f.offset += len(b)
	return len(b), nil
}

// Close gives the file back to its tree.
func (f *File) Close() { f.tree.Release(f.node) }

// Bond is the file, if it was unlinked: there is no other way to it than its objects. Else it is the object alone.
func (f *File) Bond() any {
	if f.node.Path() == "" {
		return f.node
	}
	return f
}
