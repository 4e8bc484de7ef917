package pool

import (
	"coppice/api"
	"coppice/runs"
)

// page is what is known of a page.
type page struct {
	count int
	lasts bool // something that lasts leads to it
}

// state is the state of such a page.
func (x page) state() int {
	switch {
	case x.count == 0 && x.lasts:
		return api.Pending
	case x.count == 0:
		return api.Free
	case x.lasts:
		return api.Held
	}
	return api.Fresh
}

func isState(state int) bool { return state >= api.Free && state <= api.Held }

// fits tells whether there may be a pool of so many pages and such counts.
func fits(pages, refs int) bool {
	return pages >= 1 && pages <= api.MaxBlocks && refs >= api.MinRefs && refs < api.MaxRefs
}

// filled is a pool whose pages have these counts; what something leads to lasts.
func filled(refs int, counts []int) *Pool {
	p := &Pool{refs: refs, pages: make([]page, len(counts))}
	for state := range p.in {
		p.in[state] = runs.New[int]()
	}
	for i, c := range counts {
		x := page{c, c > 0}
		p.pages[i] = x
		p.in[x.state()].Add(i+1, i+1)
	}
	return p
}

func (p *Pool) has(n int) bool { return n >= 1 && n <= len(p.pages) }

// set makes a page be so, and brings it over to the set of its new state.
func (p *Pool) set(n int, x page) {
	from, to := p.State(n), x.state()
	p.pages[n-1] = x
	if from != to {
		p.in[from].Remove(n, n)
		p.in[to].Add(n, n)
	}
}
