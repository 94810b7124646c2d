// Package fs: the tree of files and directories.
package fs

import (
	"slices"
	"strings"

	"tinyos/api"
)

const rootName = ""

// Node is a file, or a directory.
type Node struct {
	dir      bool
	bytes    []byte           // of a file
	children map[string]*Node // of a directory, by their names
}

func newDir() *Node { return &Node{dir: true, children: map[string]*Node{}} }

// IsDir tells whether it is a directory.
func (n *Node) IsDir() bool { return n.dir }

// Bytes are those of a file. They are to be read only.
func (n *Node) Bytes() []byte { return n.bytes }

// Tree is files and directories under a root, with limits.
type Tree struct {
	above             *Node // holds the root alone, so that the root is found as any other name is
	inodes, maxInodes int
	bytes, maxBytes   int
}

// New is a tree of the root alone; ErrFull, if there is no inode for it.
func New(maxInodes, maxBytes int) (*Tree, error) {
	t := &Tree{above: newDir(), maxInodes: maxInodes, maxBytes: maxBytes}
	if err := t.Mkdir(slash); err != nil {
		return nil, err
	}
	return t, nil
}

// follow goes along a path to the directory that its last name is in, or would be in.
func (t *Tree) follow(path string) (*Node, string, error) {
	parts, err := names(path)
	if err != nil {
		return nil, "", err
	}
	last := len(parts) - 1
	dir := t.above
	for _, name := range parts[:last] {
		next := dir.children[name]
		if next == nil {
			return nil, "", api.ErrMissing
		}
		if !next.dir {
			return nil, "", api.ErrDir
		}
		dir = next
	}
	return dir, parts[last], nil
}

// add puts a node under a name that is not there; ErrFull, if no inode is free.
func (t *Tree) add(dir *Node, name string, n *Node) error {
	if t.inodes >= t.maxInodes {
		return api.ErrFull
	}
	t.inodes++
	dir.children[name] = n
	return nil
}

// Mkdir makes an empty directory.
func (t *Tree) Mkdir(path string) error {
	dir, name, err := t.follow(path)
	if err != nil {
		return err
	}
	if dir.children[name] != nil {
		return api.ErrExists
	}
	return t.add(dir, name, newDir())
}

// Find is what the path is of; ErrMissing, if there is nothing.
func (t *Tree) Find(path string) (*Node, error) {
	dir, name, err := t.follow(path)
	if err != nil {
		return nil, err
	}
	n := dir.children[name]
	if n == nil {
		return nil, api.ErrMissing
	}
	return n, nil
}

// Make is the file of the path: an empty one is made, if there is nothing.
func (t *Tree) Make(path string) (*Node, error) {
	dir, name, err := t.follow(path)
	if err != nil {
		return nil, err
	}
	n := dir.children[name]
	if n == nil {
		n = &Node{}
		if err := t.add(dir, name, n); err != nil {
			return nil, err
		}
	}
	if n.dir {
		return nil, api.ErrDir
	}
	return n, nil
}

// Write writes b at the beginning of a file; ErrFull, if the files would have too many bytes.
func (t *Tree) Write(file *Node, b []byte) error {
	more := max(0, len(b)-len(file.bytes))
	if more > t.maxBytes-t.bytes {
		return api.ErrFull
	}
	t.bytes += more
	copy(file.bytes, b)
	file.bytes = append(file.bytes, b[len(b)-more:]...)
	return nil
}

// Inodes tells how many files and directories there are, the root too.
func (t *Tree) Inodes() int { return t.inodes }

// Bytes tells how many bytes all files have.
func (t *Tree) Bytes() int { return t.bytes }

// Files tells all files and directories but the root, by the bytes of their paths.
func (t *Tree) Files() []api.File {
	files := t.above.children[rootName].list("")
	slices.SortFunc(files, func(f, g api.File) int { return strings.Compare(f.Path, g.Path) })
	return files
}

// list tells all that is in a directory, in no order.
func (n *Node) list(path string) []api.File {
	var files []api.File
	for name, child := range n.children {
		at := path + slash + name
		files = append(files, api.File{Path: at, Dir: child.dir, Bytes: slices.Clone(child.bytes)})
		files = append(files, child.list(at)...)
	}
	return files
}
