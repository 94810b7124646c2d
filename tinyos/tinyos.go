// Package tinyos: a small kernel over a simulated machine: see DOC.md.
package tinyos

import (
	"tinyos/api"
	"tinyos/code"
	"tinyos/exe"
	"tinyos/kernel"
)

// Encode writes an instruction (P3).
func Encode(i api.Instr) ([4]byte, error) { return code.Encode(i) }

// Decode reads one (P3).
func Decode(b [4]byte) (api.Instr, error) { return code.Decode(b) }

// Load reads an executable (P4).
func Load(b []byte) (api.Plan, error) { return exe.Load(b) }

// Stack makes the pages of a stack (P5).
func Stack(args []string) ([]api.Page, uint64, error) { return exe.Stack(args) }

// Kernel is processes, files and a console.
type Kernel struct{ core *kernel.Kernel }

// Boot begins (P6).
func Boot(l api.Limits, files []api.File) (*Kernel, error) {
	core, err := kernel.Boot(l, files)
	if err != nil {
		return nil, err
	}
	return &Kernel{core}, nil
}

// Do makes a call for a process (P7).
func (k *Kernel) Do(pid int, c api.Call) (api.Result, error) { return k.core.Do(pid, c) }

// Step has a process do one instruction (P18).
func (k *Kernel) Step(pid int) error { return k.core.Step(pid) }

// Tick tells that time goes on (P13).
func (k *Kernel) Tick() { k.core.Tick() }

// Type gives the console what is typed (P10).
func (k *Kernel) Type(b []byte) { k.core.Type(b) }

// Console tells what was written to the console (P10).
func (k *Kernel) Console() []byte { return k.core.Console() }

// Procs tells all processes (P7).
func (k *Kernel) Procs() []api.Proc { return k.core.Procs() }

// Files tells all files (P8).
func (k *Kernel) Files() []api.File { return k.core.Files() }

// Used tells how much of the limits is used (P16).
func (k *Kernel) Used() api.Limits { return k.core.Used() }
