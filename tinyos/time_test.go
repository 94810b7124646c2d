package tinyos_test

import (
	"math"
	"math/rand/v2"
	"testing"

	"tinyos/api"
	"tinyos/tinyos"
)

func ticks(k *tinyos.Kernel, count int) {
	for range count {
		k.Tick()
	}
}

// checkLeft asks for the ticks left of each process from 1 on; those with 0 are ready.
func checkLeft(t *testing.T, k *tinyos.Kernel, want ...int) {
	t.Helper()
	procs := k.Procs()
	if len(procs) != len(want) {
		t.Fatalf("P13: %d processes, want %d", len(procs), len(want))
	}
	for i, left := range want {
		state := api.Ready
		if left > 0 {
			state = api.Sleeping
		}
		if p := procs[i]; p.Left != left || p.State != state || p.Status != 0 {
			t.Fatalf("P13: %s, want %d ticks left", brief(p), left)
		}
	}
}

func TestSleepArgs(t *testing.T) {
	k := boot(t, loop(t))
	for _, a := range []int{-1, -2, 1<<20 + 1, 1<<20 + 2, 1 << 21, 1 << 32, 1<<32 + 1, -1 << 32, math.MinInt, math.MaxInt} {
		playAll(t, "P13", k, turn{1, sleep(a), fails(api.ErrArgs)})
	}
	before := tellAll(k)
	playAll(t, "P13", k, turn{1, sleep(0), done()}, turn{1, getpid(), is(1)})
	if !tellAll(k).same(before) {
		t.Error("P13: Sleep of no ticks changed something")
	}
	k.Tick()
	if !tellAll(k).same(before) {
		t.Error("P13: a tick without one that sleeps changed something")
	}
}

func TestSleep(t *testing.T) {
	for _, count := range []int{1, 2, 3, 7, 100} {
		for _, ahead := range []int{0, 1, 5} { // ticks ahead of it don't count
			k := boot(t, counter(t), file("/f", "text"))
			ticks(k, ahead)
			playAll(t, "P13", k, turn{1, open("/f", 0), is(3)}, turn{1, fork(), is(2)})
			steps(t, k, 2, 2)
			was, used := tellAll(k), k.Used()
			playAll(t, "P13", k, turn{2, sleep(count), done()})
			for left := count; left > 0; left-- {
				want := was.procs[1]
				want.State, want.Left = api.Sleeping, left
				checkProc(t, "P13", k, want)
				checkProc(t, "P13", k, was.procs[0])
				if err := k.Step(2); api.Tell(err) != api.ErrState {
					t.Fatalf("P18: Step of one that sleeps: %v", err)
				}
				checkProc(t, "P13", k, want)
				k.Tick()
			}
			if !tellAll(k).same(was) || k.Used() != used {
				t.Fatalf("P13: after %d ticks a process is not as it was: %s", count, brief(proc(t, k, 2)))
			}
			k.Tick()
			playAll(t, "P13", k, turn{2, getpid(), is(2)})
			steps(t, k, 2, 1)
		}
	}
}

func TestSleepLongest(t *testing.T) {
	k := boot(t, loop(t))
	playAll(t, "P13", k, turn{1, fork(), is(2)}, turn{1, sleep(1 << 20), done()}, turn{2, sleep(1<<20 - 1), done()})
	checkLeft(t, k, 1<<20, 1<<20-1)
	ticks(k, 1<<20-2)
	checkLeft(t, k, 2, 1)
	k.Tick()
	checkLeft(t, k, 1, 0)
	playAll(t, "P13", k, turn{2, sleep(1 << 20), done()})
	k.Tick()
	checkLeft(t, k, 0, 1<<20-1)
	playAll(t, "P13", k, turn{1, sleep(1 << 20), done()})
	checkLeft(t, k, 1<<20, 1<<20-1)
}

func TestDoOfASleeper(t *testing.T) {
	k := boot(t, loop(t), file("/a", "text"))
	playAll(t, "P7", k, turn{1, fork(), is(2)}, turn{2, fork(), is(3)}, turn{3, exit(0), done()}, turn{2, sleep(1), done()})
	for _, c := range sundryCalls() {
		playAll(t, "P7", k, turn{2, c, fails(api.ErrState)})
	}
	playAll(t, "P7", k, turn{2, sleep(0), fails(api.ErrState)}, turn{2, sleep(-1), fails(api.ErrState)}, turn{2, exit(0), fails(api.ErrState)}, turn{2, kill(2), fails(api.ErrState)})
	k.Tick()
	playAll(t, "P7", k, turn{2, wait(), both(3, 0)})
}

// TestSleepTogether: each wakes in its own tick, whatever the order in which they fell asleep.
func TestSleepTogether(t *testing.T) {
	k := boot(t, loop(t))
	for pid := 2; pid <= 6; pid++ {
		playAll(t, "P12", k, turn{1, fork(), is(pid)})
	}
	playAll(t, "P13", k, turn{4, sleep(3), done()}, turn{2, sleep(5), done()}, turn{6, sleep(1), done()}, turn{1, sleep(3), done()}, turn{3, sleep(2), done()})
	checkLeft(t, k, 3, 5, 2, 3, 0, 1)
	k.Tick()
	checkLeft(t, k, 2, 4, 1, 2, 0, 0)
	playAll(t, "P13", k, turn{5, sleep(1), done()}, turn{6, sleep(4), done()})
	checkLeft(t, k, 2, 4, 1, 2, 1, 4)
	k.Tick()
	checkLeft(t, k, 1, 3, 0, 1, 0, 3)
	playAll(t, "P13", k, turn{3, sleep(1), done()}, turn{5, sleep(9), done()})
	k.Tick()
	checkLeft(t, k, 0, 2, 0, 0, 8, 2)
	ticks(k, 2)
	checkLeft(t, k, 0, 0, 0, 0, 6, 0)
	ticks(k, 5)
	checkLeft(t, k, 0, 0, 0, 0, 1, 0)
	k.Tick()
	checkLeft(t, k, 0, 0, 0, 0, 0, 0)
}

func TestForkDoesNotSleep(t *testing.T) {
	k := boot(t, loop(t))
	playAll(t, "P13", k, turn{1, sleep(2), done()})
	ticks(k, 2)
	playAll(t, "P12", k, turn{1, fork(), is(2)}, turn{1, sleep(3), done()})
	checkLeft(t, k, 3, 0)
	playAll(t, "P12", k, turn{2, fork(), is(3)}, turn{2, sleep(1), done()})
	checkLeft(t, k, 3, 1, 0)
	ticks(k, 1)
	checkLeft(t, k, 2, 0, 0)
}

// TestKillOfSleepers: one that was killed wakes no more, nor the one that has its number next.
func TestKillOfSleepers(t *testing.T) {
	for killed := 2; killed <= 6; killed++ {
		k := boot(t, counter(t))
		left := map[int]int{2: 4, 3: 2, 4: 7, 5: 2, 6: 3}
		for pid := 2; pid <= 6; pid++ {
			playAll(t, "P12", k, turn{1, fork(), is(pid)})
			playAll(t, "P13", k, turn{pid, sleep(left[pid]), done()})
		}
		k.Tick()
		was := proc(t, k, killed)
		playAll(t, "P12", k, turn{1, kill(killed), done()}, turn{1, kill(killed), fails(api.ErrPid)})
		checkProc(t, "P12", k, zombie(was, 137))
		playAll(t, "P12", k, turn{1, wait(), both(killed, 137)}, turn{1, fork(), is(killed)}, turn{killed, sleep(8), done()})
		left[killed] = 9
		for tick := 1; tick <= 9; tick++ {
			want := []int{0}
			for pid := 2; pid <= 6; pid++ {
				want = append(want, max(0, left[pid]-tick))
			}
			checkLeft(t, k, want...)
			k.Tick()
		}
	}
}

// TestZombiesDoNotWake: a tick changes none of them.
func TestZombiesDoNotWake(t *testing.T) {
	k := boot(t, loop(t))
	playAll(t, "P12", k, turn{1, fork(), is(2)}, turn{2, sleep(3), done()}, turn{1, fork(), is(3)}, turn{3, exit(5), done()}, turn{1, kill(2), done()})
	before := tellAll(k)
	for range 5 {
		k.Tick()
		if !tellAll(k).same(before) {
			t.Fatal("P13: a tick changed a zombie")
		}
	}
	playAll(t, "P12", k, turn{1, wait(), both(2, 137)}, turn{1, wait(), both(3, 5)})
}

func TestWaitForASleeper(t *testing.T) {
	k := boot(t, loop(t))
	playAll(t, "P12", k, turn{1, fork(), is(2)}, turn{2, sleep(2), done()}, turn{1, wait(), fails(api.ErrAgain)})
	playAll(t, "P12", k, turn{1, sleep(3), done()})
	ticks(k, 2)
	playAll(t, "P12", k, turn{2, exit(1), done()}, turn{1, wait(), fails(api.ErrState)})
	ticks(k, 1)
	playAll(t, "P12", k, turn{1, wait(), both(2, 1)})
}

// TestTheFirstSleeps: all of them may sleep, and a process may sleep while its parent is killed.
func TestTheFirstSleeps(t *testing.T) {
	k := boot(t, loop(t))
	playAll(t, "P13", k, turn{1, fork(), is(2)}, turn{2, fork(), is(3)}, turn{1, sleep(2), done()}, turn{2, sleep(9), done()}, turn{3, kill(1), fails(api.ErrPid)}, turn{3, kill(2), done()}, turn{3, sleep(1), done()})
	checkKin(t, "P13", k, kin{1, 0, api.Sleeping, 0, 2}, kin{2, 1, api.Zombie, 137, 0}, kin{3, 1, api.Sleeping, 0, 1})
	k.Tick()
	checkKin(t, "P13", k, kin{1, 0, api.Sleeping, 0, 1}, kin{2, 1, api.Zombie, 137, 0}, kin{pid: 3, parent: 1})
	k.Tick()
	checkKin(t, "P13", k, kin{pid: 1}, kin{2, 1, api.Zombie, 137, 0}, kin{pid: 3, parent: 1})
}

// TestAnySleep has 16 processes sleep, wake and be killed by chance.
func TestAnySleep(t *testing.T) {
	for seed := range uint64(60) {
		r := rand.New(rand.NewPCG(11, seed))
		k := boot(t, loop(t))
		left := make([]int, 16)
		for pid := 2; pid <= 16; pid++ {
			ask(t, k, 1, fork())
		}
		for range 200 {
			i := 1 + r.IntN(15)
			switch {
			case r.IntN(3) == 0:
				k.Tick()
				for n := range left {
					left[n] = max(0, left[n]-1)
				}
			case r.IntN(4) == 0:
				playAll(t, "P12", k, turn{1, kill(i + 1), done()}, turn{1, wait(), both(i+1, 137)}, turn{1, fork(), is(i + 1)})
				left[i] = 0
			case left[i] == 0:
				left[i] = r.IntN(12)
				playAll(t, "P13", k, turn{i + 1, sleep(left[i]), done()})
			}
			checkLeft(t, k, left...)
		}
	}
}
