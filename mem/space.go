package mem

import "tinyos/api"

// page is one of an address space. One with which nothing may be done is not there.
type page struct {
	perm  api.Perm
	bytes [api.PageSize]byte
}

// Space is an address space: pages by their numbers. A copy of it shares nothing with it.
type Space struct{ pages [api.MaxPages]page }

// NewSpace is an address space of these pages.
func NewSpace(pages ...api.Page) Space {
	var s Space
	for _, p := range pages {
		s.pages[p.Number] = page{p.Perm, p.Bytes}
	}
	return s
}

// Pages tells the pages that are there, by their numbers.
func (s *Space) Pages() []api.Page {
	pages := make([]api.Page, 0, s.Count())
	for i := range s.pages {
		if p := &s.pages[i]; p.perm != 0 {
			pages = append(pages, api.Page{Number: i, Perm: p.perm, Bytes: p.bytes})
		}
	}
	return pages
}

// Count tells how many pages are there.
func (s *Space) Count() int {
	count := 0
	for i := range s.pages {
		if s.pages[i].perm != 0 {
			count++
		}
	}
	return count
}

// Break is the number of the page behind the last one below the stack.
func (s *Space) Break() int {
	at := api.StackPage
	for at > 0 && s.pages[at-1].perm == 0 {
		at--
	}
	return at
}

// Add makes so many pages, from a number on, which may be read and written and are 0.
func (s *Space) Add(number, count int) {
	for i := range count {
		s.pages[number+i] = page{perm: Read | Write}
	}
}

// Get fills b with the bytes from addr on; false, if not all of them are in pages with which this may be done.
func (s *Space) Get(b []byte, addr uint64, perm api.Perm) bool {
	if !s.May(perm, addr, len(b)) {
		return false
	}
	for i := range b {
		b[i] = *s.at(addr + uint64(i))
	}
	return true
}

// Set writes b from addr on; false, with nothing written, if not all of its bytes come into pages that may be written.
func (s *Space) Set(addr uint64, b []byte) bool {
	if !s.May(Write, addr, len(b)) {
		return false
	}
	for i := range b {
		*s.at(addr + uint64(i)) = b[i]
	}
	return true
}

// May tells whether so many bytes from addr on are all in pages with which this may be done. It looks at each one from the lowest on, so it meets the end of the address space ahead of an address that wraps round, and ends soon, however many there are.
func (s *Space) May(perm api.Perm, addr uint64, count int) bool {
	for i := range count {
		at := addr + uint64(i)
		if at >= SpaceEnd || s.pages[at/api.PageSize].perm&perm == 0 {
			return false
		}
	}
	return true
}

func (s *Space) at(addr uint64) *byte {
	return &s.pages[addr/api.PageSize].bytes[addr%api.PageSize]
}
