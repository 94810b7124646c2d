// Package fs: the tree of files and directories.
package fs

import (
	"slices"
	"strings"

	"tinyos/api"
)

const rootName = ""

// Node is a file, or a directory.
type Node struct {
	path     string // empty, if it is not in the tree any more
	dir      bool
	bytes    []byte           // of a file
	children map[string]*Node // of a directory, by their names
	objects  int              // how many there are of a file: they keep it, unlinked or not
}

func newDir() *Node { return &Node{dir: true, children: map[string]*Node{}} }

// Path is by which it is in the tree; empty, if it was unlinked.
func (n *Node) Path() string { return n.path }

// Bytes are those of a file. They are to be read only.
func (n *Node) Bytes() []byte { return n.bytes }

// Place is where a path leads to: a name in a directory. There may be nothing yet.
type Place struct {
	dir        *Node
	name, path string
}

// Node is what is there, or nil.
func (p Place) Node() *Node { return p.dir.children[p.name] }

// Tree is files and directories under a root, with limits.
type Tree struct {
	above             *Node // holds the root alone, so that the root is found as any other name is
	inodes, maxInodes int
	bytes, maxBytes   int
}

// New is a tree of the root alone; ErrFull, if there is no inode for it.
func New(maxInodes, maxBytes int) (*Tree, error) {
	t := &Tree{above: newDir(), maxInodes: maxInodes, maxBytes: maxBytes}
	if err := t.Mkdir(slash); err != nil {
		return nil, err
	}
	return t, nil
}

// Follow goes along a path: all of its names but the last one must be directories.
func (t *Tree) Follow(path string) (Place, error) {
	parts, err := names(path)
	if err != nil {
		return Place{}, err
	}
	last := len(parts) - 1
	dir := t.above
	for _, name := range parts[:last] {
		next := dir.children[name]
		if next == nil {
			return Place{}, api.ErrMissing
		}
		if !next.dir {
			return Place{}, api.ErrDir
		}
		dir = next
	}
	return Place{dir, parts[last], path}, nil
}

// Find is the file at a path; ErrMissing, if there is nothing; ErrDir, if it is a directory.
func (t *Tree) Find(path string) (*Node, error) {
	at, err := t.Follow(path)
	if err != nil {
		return nil, err
	}
	if err := t.MayOpen(at, false); err != nil {
		return nil, err
	}
	return at.Node(), nil
}

// HasRoom tells whether so many inodes are free, and so many bytes.
func (t *Tree) HasRoom(inodes, bytes int) bool {
	return inodes <= t.maxInodes-t.inodes && bytes <= t.maxBytes-t.bytes
}

func (t *Tree) isFull() bool { return !t.HasRoom(1, 0) }

// put asks for a free inode, and for a place where nothing is. The path was handed in, and is not to be kept.
func (t *Tree) put(at Place, n *Node) {
	t.inodes++
	n.path = strings.Clone(at.path)
	at.dir.children[strings.Clone(at.name)] = n
}

// Mkdir makes an empty directory.
func (t *Tree) Mkdir(path string) error {
	at, err := t.Follow(path)
	if err != nil {
		return err
	}
	if at.Node() != nil {
		return api.ErrExists
	}
	if t.isFull() {
		return api.ErrFull
	}
	t.put(at, newDir())
	return nil
}

// Unlink takes a file or an empty directory out of the tree.
func (t *Tree) Unlink(path string) error {
	at, err := t.Follow(path)
	if err != nil {
		return err
	}
	n := at.Node()
	if n == nil {
		return api.ErrMissing
	}
	if at.dir == t.above || len(n.children) > 0 {
		return api.ErrBusy
	}
	delete(at.dir.children, at.name)
	n.path = ""
	t.tidy(n)
	return nil
}

// MayOpen tells what stands against a file at a place: it is missing (or, if it may be made, no inode is free), or it is a directory.
func (t *Tree) MayOpen(at Place, create bool) error {
	n := at.Node()
	switch {
	case n == nil && !create:
		return api.ErrMissing
	case n == nil && t.isFull():
		return api.ErrFull
	case n != nil && n.dir:
		return api.ErrDir
	}
	return nil
}

// File is the file at a place where one may be opened: an empty one is made, if there is nothing.
func (t *Tree) File(at Place) *Node {
	if n := at.Node(); n != nil {
		return n
	}
	n := &Node{}
	t.put(at, n)
	return n
}

// Nameless makes a file with these bytes that is as if it had been unlinked: it asks for room, and to be held at once.
func (t *Tree) Nameless(b []byte) *Node {
	t.inodes++
	t.bytes += len(b)
	return &Node{bytes: slices.Clone(b)}
}

// Write writes b into a file from an offset on, and what is between its end and the offset becomes 0; ErrFull, if the files would have too many bytes.
func (t *Tree) Write(file *Node, offset int, b []byte) error {
	if len(b) == 0 {
		return nil
	}
	more := max(0, offset+len(b)-len(file.bytes))
	if !t.HasRoom(0, more) {
		return api.ErrFull
	}
	t.bytes += more
	file.bytes = append(file.bytes, make([]byte, more)...)
	copy(file.bytes[offset:], b)
	return nil
}

// Empty takes all bytes out of a file.
func (t *Tree) Empty(file *Node) {
	t.bytes -= len(file.bytes)
	file.bytes = nil
}

// Hold tells that there is one more object of a file.
func (t *Tree) Hold(file *Node) { file.objects++ }

// Release tells that there is one fewer.
func (t *Tree) Release(file *Node) {
	file.objects--
	t.tidy(file)
}

// tidy gives back what a node used, if nothing leads to it any more.
func (t *Tree) tidy(n *Node) {
	if n.path == "" && n.objects == 0 {
		t.inodes--
		t.bytes -= len(n.bytes)
	}
}

// Inodes tells how many files and directories there are, the root and files that are kept by their objects too.
func (t *Tree) Inodes() int { return t.inodes }

// Bytes tells how many bytes all files have.
func (t *Tree) Bytes() int { return t.bytes }

// Files tells all files and directories but the root, by the bytes of their paths.
func (t *Tree) Files() []api.File {
	files := t.above.children[rootName].list("")
	slices.SortFunc(files, func(f, g api.File) int { return strings.Compare(f.Path, g.Path) })
	return files
}

// list tells all that is in a directory, in no order.
func (n *Node) list(path string) []api.File {
	var files []api.File
	for name, child := range n.children {
		at := path + slash + name
		files = append(files, api.File{Path: at, Dir: child.dir, Bytes: slices.Clone(child.bytes)})
		files = append(files, child.list(at)...)
	}
	return files
}
