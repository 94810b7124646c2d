package kernel

import (
	"testing"

	"tinyos/api"
	"tinyos/mem"
	"tinyos/stream"
)

// family is process 1 with the children 2 and 5; 3 and 4 are those of 2.
func family() *Kernel {
	k := &Kernel{console: &stream.Console{}, procs: map[int]*process{}}
	for pid, parent := range map[int]int{1: 0, 2: 1, 3: 2, 4: 2, 5: 1} {
		p := newProcess(pid, parent, k.console)
		p.PC = uint64(0x100 * pid)
		p.Space = mem.NewSpace(api.Page{Number: 7, Perm: mem.Read})
		k.procs[pid] = p
	}
	return k
}

func TestEnd(t *testing.T) {
	for _, x := range []struct {
		pid     int
		parents [5]int
	}{
		{2, [5]int{0, 1, 1, 1, 1}},
		{3, [5]int{0, 1, 2, 2, 1}},
		{1, [5]int{0, 1, 2, 2, 1}},
	} {
		k := family()
		k.end(k.procs[x.pid], 130)
		for i, p := range k.Procs() {
			want := api.Proc{PID: i + 1, Parent: x.parents[i], PC: uint64(0x100 * (i + 1))}
			pages, fds := 1, 3
			if p.PID == x.pid {
				want.State, want.Status = api.Zombie, 130
				pages, fds = 0, 0
			}
			if p.PID != want.PID || p.Parent != want.Parent || p.State != want.State || p.Status != want.Status || p.PC != want.PC || len(p.Pages) != pages || len(p.Fds) != fds {
				t.Errorf("P12: %d ended: %+v, want %+v with %d pages and %d descriptors", x.pid, p, want, pages, fds)
			}
		}
	}
}

// TestEndOfSharedObjects: a pipe's end is closed with its last descriptor, whichever process has it.
func TestEndOfSharedObjects(t *testing.T) {
	k := family()
	k.limits.Objects = 2
	if _, err := k.Do(2, api.Call{Kind: api.Pipe}); err != nil {
		t.Fatalf("P11: Pipe: %v", err)
	}
	k.procs[3].fds[7] = k.procs[2].fds[3]
	k.procs[5].fds = k.procs[2].fds
	for _, x := range []struct{ pid, objects int }{{2, 2}, {5, 1}, {3, 0}} {
		k.end(k.procs[x.pid], 0)
		if got := len(k.objects()); got != x.objects {
			t.Errorf("P12: %d ended: %d objects, want %d", x.pid, got, x.objects)
		}
		r, err := k.Do(3, api.Call{Kind: api.Read, A: 7, B: 1})
		want := map[int]api.Errno{2: api.ErrAgain, 5: api.OK, 3: api.ErrState}[x.pid]
		if api.Tell(err) != want || r.N != 0 {
			t.Errorf("P11: %d ended: Read answers %d bytes and %v, want error %d", x.pid, r.N, err, want)
		}
	}
}
