// Package image: a tree of processes as the bytes of a file.
package image

import "tinyos/api"

// What a descriptor is of, by a number.
const (
	Free    = iota // nothing
	Console        // the console, which is no object
	Objects        // the first of the tree's objects; the others follow
)

// Kind is what an object is of.
type Kind int

const (
	Named    Kind = iota // a file that has a path
	Nameless             // a file that was unlinked
	ReadEnd              // the end of a pipe that is read
	WriteEnd             // the end of a pipe that is written
)

// Object is what descriptors of a tree are of.
type Object struct {
	Kind   Kind
	Path   string // of a file that has one
	Offset int    // of a file, named or nameless
	Which  int    // the nameless file, or the pipe, by its place in the tree's list
}

// Proc is a process of a tree. The root's Parent is 0, whoever it is; Fds is empty, for Of says more.
type Proc struct {
	api.Proc
	Of [api.MaxFds]int // what each descriptor is of
}

// Tree is what an image tells. Its lists are in the order in which things are met, by the processes' numbers and their descriptors', so that a tree has one image only.
type Tree struct {
	Procs   []Proc // by their numbers
	Objects []Object
	Files   [][]byte // the bytes of those that are nameless
	Pipes   [][]byte // the bytes that are in them
}

// Root is the number of the process that all others of the tree are below of.
func (t Tree) Root() int {
	for _, p := range t.Procs {
		if p.IsRoot() {
			return p.PID
		}
	}
	return 0
}

func (p Proc) IsRoot() bool { return p.Parent == 0 }
