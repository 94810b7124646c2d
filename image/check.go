package image

import (
	"slices"

	"tinyos/api"
	"tinyos/fs"
	"tinyos/mem"
)

const (
	leastPID  = 2      // process 1 is in no tree but its own
	maxStatus = 255    // of a zombie
	maxOffset = 100000 // a file that was there from the start may have so many bytes, and be read to its end
)

// isRight tells whether a kernel can have had such a tree: what is read from a file is trusted only then.
func (t Tree) isRight() bool {
	return t.areKin() &&
		all(t.Procs, Proc.isRight) &&
		all(t.Objects, Object.isRight) &&
		all(t.Pipes, func(b []byte) bool { return len(b) <= api.PipeSize }) &&
		t.isInOrder() &&
		t.hasEndsOnce()
}

func all[T any](list []T, holds func(T) bool) bool {
	return !slices.ContainsFunc(list, func(x T) bool { return !holds(x) })
}

func isWithin(n, least, most int) bool { return least <= n && n <= most }

// areKin asks for one root with all others below it, by their numbers.
func (t Tree) areKin() bool {
	roots := 0
	for i, p := range t.Procs {
		if i > 0 && t.Procs[i-1].PID >= p.PID || !t.isBelowRoot(p) {
			return false
		}
		if p.IsRoot() {
			roots++
		}
	}
	return roots == 1
}

// isBelowRoot goes from parent to parent, no oftener than there are processes, for they could go round. No parent is a zombie: its children would be those of process 1.
func (t Tree) isBelowRoot(p Proc) bool {
	for range t.Procs {
		if p.IsRoot() {
			return true
		}
		at := slices.IndexFunc(t.Procs, func(q Proc) bool { return q.PID == p.Parent })
		if at < 0 || t.Procs[at].State == api.Zombie {
			return false
		}
		p = t.Procs[at]
	}
	return false
}

func (p Proc) isRight() bool {
	return isWithin(p.PID, leastPID, api.MaxProcs) && p.hasState() && p.hasPages()
}

// hasState asks for what goes with the state, and for nothing else.
func (p Proc) hasState() bool {
	switch p.State {
	case api.Ready:
		return p.Status == 0 && p.Left == 0
	case api.Sleeping:
		return p.Status == 0 && isWithin(p.Left, 1, api.MaxSteps)
	case api.Zombie:
		return isWithin(p.Status, 0, maxStatus) && p.Left == 0 && len(p.Pages) == 0 && p.Of == [api.MaxFds]int{}
	}
	return false
}

func (p Proc) hasPages() bool {
	for i, g := range p.Pages {
		if i > 0 && p.Pages[i-1].Number >= g.Number || !isWithin(g.Number, 0, api.MaxPages-1) || !mem.IsPerm(uint64(g.Perm)) {
			return false
		}
	}
	return true
}

func (o Object) isRight() bool {
	switch o.Kind {
	case Named:
		return fs.IsPath(o.Path) && o.Offset <= maxOffset
	case Nameless:
		return o.Offset <= maxOffset
	case ReadEnd, WriteEnd:
		return true
	}
	return false
}

// isInOrder asks for lists in which everything is met, in that order.
func (t Tree) isInOrder() bool {
	var objects, files, pipes []int
	for _, p := range t.Procs {
		for _, of := range p.Of {
			if of >= Objects {
				objects = append(objects, of-Objects)
			}
		}
	}
	for _, o := range t.Objects {
		switch o.Kind {
		case Nameless:
			files = append(files, o.Which)
		case ReadEnd, WriteEnd:
			pipes = append(pipes, o.Which)
		}
	}
	return areMet(len(t.Objects), objects) && areMet(len(t.Files), files) && areMet(len(t.Pipes), pipes)
}

// areMet tells whether the numbers are all those below count, and each is met for the first time behind those below it.
func areMet(count int, numbers []int) bool {
	next := 0
	for _, n := range numbers {
		if n > next {
			return false
		}
		if n == next {
			next++
		}
	}
	return next == count
}

// hasEndsOnce asks that no two objects are of the same end of a pipe.
func (t Tree) hasEndsOnce() bool {
	for i, o := range t.Objects {
		if (o.Kind == ReadEnd || o.Kind == WriteEnd) && slices.Index(t.Objects, o) != i {
			return false
		}
	}
	return true
}
