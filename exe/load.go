// Package exe: executables, and the stack that one begins with.
package exe

import (
	"cmp"
	"slices"

	"tinyos/api"
	"tinyos/mem"
)

const (
	magic       = "\x7fELF\x02\x01\x01"
	headerSize  = 64
	segmentSize = 56
	maxSegments = 8
	loadable    = 1 // the number that every segment has
)

// field is a number of the header that must be so.
type field struct {
	at, size int
	want     uint64
}

var headerFields = [...]field{
	{16, 2, 2},   // a file to execute
	{18, 2, 243}, // the machine
	{20, 4, 1},   // the form's version
	{32, 8, headerSize},
	{52, 2, headerSize},
	{54, 2, segmentSize},
}

// segment is what an executable tells of one; first and last are its pages.
type segment struct {
	perm        api.Perm
	addr        uint64
	data        []byte
	first, last int
}

// Load reads an executable.
func Load(b []byte) (api.Plan, error) {
	count, ok := readHeader(b)
	if !ok {
		return api.Plan{}, api.ErrHeader
	}
	segments, ok := readSegments(b, count)
	if !ok {
		return api.Plan{}, api.ErrSegment
	}
	slices.SortFunc(segments, func(s, t segment) int { return cmp.Compare(s.addr, t.addr) })
	if overlap(segments) {
		return api.Plan{}, api.ErrOverlap
	}
	entry := number(b, 24, 8)
	if !isEntry(entry, segments) {
		return api.Plan{}, api.ErrEntry
	}
	plan := api.Plan{Entry: entry}
	for _, s := range segments {
		plan.Pages = append(plan.Pages, s.pages()...)
	}
	return plan, nil
}

func number(b []byte, at, size int) uint64 { return mem.Number(b[at : at+size]) }

// readHeader tells how many segments there are; false, if b has no header that is right.
func readHeader(b []byte) (int, bool) {
	if len(b) < headerSize || string(b[:len(magic)]) != magic {
		return 0, false
	}
	for _, f := range headerFields {
		if number(b, f.at, f.size) != f.want {
			return 0, false
		}
	}
	count := int(number(b, 56, 2))
	if count < 1 || count > maxSegments || len(b) < headerSize+segmentSize*count {
		return 0, false
	}
	return count, true
}

func readSegments(b []byte, count int) ([]segment, bool) {
	segments := make([]segment, count)
	for i := range segments {
		s, ok := readSegment(b, headerSize+segmentSize*i)
		if !ok {
			return nil, false
		}
		segments[i] = s
	}
	return segments, true
}

// readSegment reads the segment that is told of at this place; false, if it is not right.
func readSegment(b []byte, at int) (segment, bool) {
	perm := number(b, at+4, 4)
	offset, addr := number(b, at+8, 8), number(b, at+16, 8)
	inFile, inMemory := number(b, at+32, 8), number(b, at+40, 8)
	switch {
	case number(b, at, 4) != loadable,
		!mem.IsPerm(perm),
		inMemory == 0,
		inFile > inMemory,
		!within(offset, inFile, uint64(len(b))),
		offset%api.PageSize != addr%api.PageSize,
		!within(addr, inMemory, mem.StackStart):
		return segment{}, false
	}
	return segment{
		perm:  api.Perm(perm),
		addr:  addr,
		data:  b[offset : offset+inFile],
		first: int(addr / api.PageSize),
		last:  int((addr + inMemory - 1) / api.PageSize),
	}, true
}

// within tells whether so many bytes from start on end at most at end. It adds nothing, for a sum could wrap round.
func within(start, count, end uint64) bool { return count <= end && start <= end-count }

// overlap asks neighbours only, for the segments are sorted by their addresses.
func overlap(segments []segment) bool {
	for i := 1; i < len(segments); i++ {
		if segments[i].first <= segments[i-1].last {
			return true
		}
	}
	return false
}

func isEntry(entry uint64, segments []segment) bool {
	if entry%4 != 0 || entry >= mem.StackStart {
		return false
	}
	page := int(entry / api.PageSize)
	for _, s := range segments {
		if s.perm&mem.Execute != 0 && s.first <= page && page <= s.last {
			return true
		}
	}
	return false
}

func (s segment) pages() []api.Page {
	pages := make([]api.Page, s.last-s.first+1)
	rest := s.data
	at := s.addr % api.PageSize // 0 in all pages but the first one
	for i := range pages {
		pages[i].Number = s.first + i
		pages[i].Perm = s.perm
		n := copy(pages[i].Bytes[at:], rest)
		rest = rest[n:]
		at = 0
	}
	return pages
}
