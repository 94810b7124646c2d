package kernel

import (
	"testing"

	"tinyos/api"
	"tinyos/mem"
)

// family is process 1 with the children 2 and 5; 3 and 4 are those of 2.
func family() *Kernel {
	k := &Kernel{procs: map[int]*process{}}
	for pid, parent := range map[int]int{1: 0, 2: 1, 3: 2, 4: 2, 5: 1} {
		p := newProcess(pid, parent)
		p.PC = uint64(0x100 * pid)
		p.Space = mem.NewSpace(api.Page{Number: 7, Perm: mem.Read})
		k.procs[pid] = p
	}
	return k
}

func TestEnd(t *testing.T) {
	for _, x := range []struct {
		pid     int
		parents [5]int
	}{
		{2, [5]int{0, 1, 1, 1, 1}},
		{3, [5]int{0, 1, 2, 2, 1}},
		{1, [5]int{0, 1, 2, 2, 1}},
	} {
		k := family()
		k.end(k.procs[x.pid], 130)
		for i, p := range k.Procs() {
			want := api.Proc{PID: i + 1, Parent: x.parents[i], PC: uint64(0x100 * (i + 1))}
			pages, fds := 1, 3
			if p.PID == x.pid {
				want.State, want.Status = api.Zombie, 130
				pages, fds = 0, 0
			}
			if p.PID != want.PID || p.Parent != want.Parent || p.State != want.State || p.Status != want.Status || p.PC != want.PC || len(p.Pages) != pages || len(p.Fds) != fds {
				t.Errorf("P12: %d ended: %+v, want %+v with %d pages and %d descriptors", x.pid, p, want, pages, fds)
			}
		}
	}
}
