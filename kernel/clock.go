package kernel

import (
	"container/heap"
	"slices"

	"tinyos/api"
)

// clock is the time, in ticks, and who sleeps.
type clock struct {
	now      int
	sleepers sleepers
}

// sleepers are a heap: the first one is one that wakes first.
type sleepers []*process

func (s sleepers) Len() int           { return len(s) }
func (s sleepers) Less(i, j int) bool { return s[i].wakes < s[j].wakes }
func (s sleepers) Swap(i, j int)      { s[i], s[j] = s[j], s[i] }

// Push is for container/heap alone, which gives it processes.
func (s *sleepers) Push(p any) { *s = append(*s, p.(*process)) }

// Pop is for container/heap alone. It leaves nothing behind the end, so that a process that is gone isn't kept.
func (s *sleepers) Pop() any {
	last := len(*s) - 1
	p := (*s)[last]
	*s = slices.Delete(*s, last, last+1)
	return p
}

// lull has a process sleep for so many ticks, 1 at least.
func (c *clock) lull(p *process, ticks int) {
	p.state = api.Sleeping
	p.wakes = c.now + ticks
	heap.Push(&c.sleepers, p)
}

// forget takes a process that sleeps from those that will wake.
func (c *clock) forget(p *process) { heap.Remove(&c.sleepers, slices.Index(c.sleepers, p)) }

func (c *clock) tick() {
	c.now++
	for len(c.sleepers) > 0 && c.sleepers[0].wakes == c.now {
		heap.Pop(&c.sleepers).(*process).state = api.Ready
	}
}

// left is how many ticks a process still sleeps.
func (c *clock) left(p *process) int {
	if p.state != api.Sleeping {
		return 0
	}
	return p.wakes - c.now
}

func (k *Kernel) sleep(p *process, c api.Call) (api.Result, error) {
	if !isWithin(c.A, 0, api.MaxSteps) {
		return api.Result{}, api.ErrArgs
	}
	if c.A > 0 {
		k.clock.lull(p, c.A)
	}
	return api.Result{}, nil
}
