package pool

import (
	"slices"

	"coppice/api"
	"coppice/runs"
)

// act is what was done and can be undone.
type act struct {
	undo func() // right only when all acts behind it are undone
}

// act gives a page that there is another count, and keeps how to undo that.
func (p *Pool) act(n, count int) {
	was := p.pages[n-1]
	p.set(n, page{count, was.lasts})
	p.acts = append(p.acts, act{undo: func() { p.set(n, was) }})
}

// Mark is a place to which what is done from now on can be undone.
func (p *Pool) Mark() int { return p.floor + len(p.acts) }

// Undo undoes what was done behind a mark.
func (p *Pool) Undo(mark int) bool {
	if mark < p.floor || mark > p.Mark() {
		return false
	}
	for p.Mark() > mark {
		last := len(p.acts) - 1
		p.acts[last].undo()
		p.acts[last] = act{} // lets go of what the closure holds
		p.acts = p.acts[:last]
	}
	return true
}

// Settle makes what is now what lasts.
func (p *Pool) Settle() {
	p.settle(api.Fresh, api.Held)
	p.settle(api.Pending, api.Free)
	p.floor, p.acts = p.Mark(), nil
}

// settle brings all pages of a state over to the other one that differs from it
// in what lasts alone. They go together: one by one, each of many runs would move
// all the others.
func (p *Pool) settle(from, to int) {
	for n := range p.in[from].All() {
		p.pages[n-1].lasts = p.pages[n-1].count > 0
	}
	p.in[to] = runs.Of(slices.Concat(p.in[to].Runs(), p.in[from].Runs())...)
	p.in[from] = runs.New[int]()
}
