package exe

import (
	"strings"

	"tinyos/api"
	"tinyos/mem"
)

const (
	stackPages = api.MaxPages - api.StackPage
	stackAlign = 16
)

// Stack makes the pages of a stack with these arguments, and the stack pointer.
func Stack(args []string) ([]api.Page, uint64, error) {
	if !areArgs(args) {
		return nil, 0, api.ErrArgs
	}
	var room [stackPages * api.PageSize]byte
	words := make([]uint64, len(args)+2) // the last one stays 0
	words[0] = uint64(len(args))
	at := len(room)
	for i := len(args) - 1; i >= 0; i-- {
		at -= len(args[i]) + 1
		copy(room[at:], args[i])
		words[i+1] = uint64(mem.StackStart + at)
	}
	// The stack starts at a multiple of 16, so an index is one just where its address is.
	at -= mem.WordSize * len(words)
	at -= at % stackAlign
	mem.PutWords(room[at:], words...)

	pages := make([]api.Page, stackPages)
	for i := range pages {
		pages[i].Number = api.StackPage + i
		pages[i].Perm = mem.Read | mem.Write
		copy(pages[i].Bytes[:], room[i*api.PageSize:])
	}
	return pages, uint64(mem.StackStart + at), nil
}

func areArgs(args []string) bool {
	if len(args) > api.MaxArgs {
		return false
	}
	for _, a := range args {
		if len(a) > api.MaxArg || strings.IndexByte(a, 0) >= 0 {
			return false
		}
	}
	return true
}
