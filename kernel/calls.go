package kernel

import "tinyos/api"

// work makes a call for a process. With an error it has changed nothing.
type work func(k *Kernel, p *process, c api.Call) (api.Result, error)

// works lists what makes each call, by its kind; 0 is none.
func works() [api.Restore + 1]work {
	return [api.Restore + 1]work{
		api.Fork:       (*Kernel).fork,
		api.Exec:       (*Kernel).exec,
		api.Exit:       (*Kernel).exit,
		api.Wait:       (*Kernel).wait,
		api.Kill:       (*Kernel).kill,
		api.Sleep:      (*Kernel).sleep,
		api.Getpid:     (*Kernel).getpid,
		api.Open:       (*Kernel).open,
		api.Close:      (*Kernel).close,
		api.Read:       (*Kernel).read,
		api.Write:      (*Kernel).write,
		api.Seek:       (*Kernel).seek,
		api.Dup:        (*Kernel).dup,
		api.Pipe:       (*Kernel).pipe,
		api.Unlink:     (*Kernel).unlink,
		api.Mkdir:      (*Kernel).mkdir,
		api.Brk:        (*Kernel).brk,
		api.Peek:       (*Kernel).peek,
		api.Poke:       (*Kernel).poke,
		api.Checkpoint: (*Kernel).checkpoint,
		api.Restore:    (*Kernel).restore,
	}
}

func isKind(kind api.Kind) bool { return isWithin(int(kind), int(api.Fork), int(api.Restore)) }

func (k *Kernel) call(p *process, c api.Call) (api.Result, error) {
	if !isKind(c.Kind) {
		return api.Result{}, api.ErrCall
	}
	return works()[c.Kind](k, p, c)
}

// leastFree is the least number, from a first one on, at which there is nothing.
func leastFree[T comparable](from int, at func(int) T) int {
	var nothing T
	for at(from) != nothing {
		from++
	}
	return from
}

func (k *Kernel) getpid(p *process, _ api.Call) (api.Result, error) {
	return api.Result{N: p.pid}, nil
}
