package vault_test

import (
	"iter"
	"slices"

	"coppice/api"
	"coppice/page"
)

// world is the count of each page, and what stands on it, from page 1 on.
type world struct {
	refs   int
	counts []int
	on     []api.Page
}

// model is a vault as the chapter tells it, slow and plain: a whole world for each
// act, the first one that of the beginning.
type model struct {
	worlds []world
	lasts  []bool
	floor  int
}

func modelOf(refs int, counts []int, pages ...api.Page) *model {
	w := world{refs, slices.Clone(counts), make([]api.Page, len(counts))}
	copy(w.on, pages)
	m := &model{worlds: []world{w}}
	m.keep()
	return m
}

func (m *model) keep() {
	m.lasts = nil
	for _, c := range m.now().counts {
		m.lasts = append(m.lasts, c > 0)
	}
}

func (m *model) now() world { return m.worlds[len(m.worlds)-1] }

// next is a world to be changed, which becomes the one that is now if all went well.
func (m *model) next() world {
	w := m.now()
	return world{w.refs, slices.Clone(w.counts), slices.Clone(w.on)}
}

func (m *model) act(w world, e api.Errno) api.Errno {
	if e == 0 {
		m.worlds = append(m.worlds, w)
	}
	return e
}

func (w world) there(n int) bool { return n >= 1 && n <= len(w.counts) && w.counts[n-1] > 0 }

// leadsTo is where a page leads, as the section Words says it.
func leadsTo(p api.Page) []int {
	var l []int
	for _, it := range p.Items {
		if it.Child != 0 {
			l = append(l, it.Child)
		}
	}
	if p.Next != 0 {
		l = append(l, p.Next)
	}
	return l
}

func (w world) oneMore(p api.Page) api.Errno {
	for _, n := range leadsTo(p) {
		if !w.there(n) {
			return errPage
		}
		if w.counts[n-1] == w.refs {
			return errRefs
		}
		w.counts[n-1]++
	}
	return 0
}

func (w world) drop(n int) api.Errno {
	if !w.there(n) {
		return errPage
	}
	w.counts[n-1]--
	if w.counts[n-1] > 0 {
		return 0
	}
	for _, kid := range leadsTo(w.on[n-1]) {
		if e := w.drop(kid); e != 0 {
			return e
		}
	}
	return 0
}

func isWrong(p api.Page) bool { return page.Check(p) != 0 }

func (m *model) lowestFree() int {
	for n := 1; n <= m.Len(); n++ {
		if m.State(n) == free {
			return n
		}
	}
	return 0
}

func (m *model) ownShadow(n int) bool { return m.State(n) == fresh && m.Count(n) == 1 }

func (m *model) Read(n int) (api.Page, api.Errno) {
	if !m.now().there(n) {
		return api.Page{}, errPage
	}
	return m.now().on[n-1], 0
}

func (m *model) Make(p api.Page) (int, api.Errno) {
	if e := page.Check(p); e != 0 {
		return 0, e
	}
	n := m.lowestFree()
	if n == 0 {
		return 0, errSpace
	}
	w := m.next()
	w.counts[n-1], w.on[n-1] = 1, p
	return n, m.act(w, 0)
}

func (m *model) Write(n int, p api.Page) api.Errno {
	if !m.ownShadow(n) {
		return errPage
	}
	if e := page.Check(p); e != 0 {
		return e
	}
	w := m.next()
	w.on[n-1] = p
	return m.act(w, 0)
}

func (m *model) Shadow(n int) (int, api.Errno) {
	if !m.now().there(n) {
		return 0, errPage
	}
	if m.ownShadow(n) {
		return n, 0
	}
	s := m.lowestFree()
	if s == 0 {
		return 0, errSpace
	}
	w := m.next()
	w.counts[s-1], w.on[s-1] = 1, w.on[n-1]
	w.counts[n-1]--
	if w.counts[n-1] > 0 {
		if e := w.oneMore(w.on[n-1]); e != 0 {
			return 0, e
		}
	}
	return s, m.act(w, 0)
}

func (m *model) Take(n int) (api.Page, api.Errno) {
	if !m.now().there(n) {
		return api.Page{}, errPage
	}
	w := m.next()
	w.counts[n-1]--
	if w.counts[n-1] > 0 {
		if e := w.oneMore(w.on[n-1]); e != 0 {
			return api.Page{}, e
		}
	}
	return w.on[n-1], m.act(w, 0)
}

func (m *model) Keep(n int) api.Errno {
	if !m.now().there(n) {
		return errPage
	}
	if m.Count(n) == m.Refs() {
		return errRefs
	}
	w := m.next()
	w.counts[n-1]++
	return m.act(w, 0)
}

func (m *model) Drop(n int) api.Errno {
	w := m.next()
	return m.act(w, w.drop(n))
}

func (m *model) Len() int      { return len(m.lasts) }
func (m *model) Refs() int     { return m.now().refs }
func (m *model) Counts() []int { return slices.Clone(m.now().counts) }
func (m *model) Mark() int     { return len(m.worlds) - 1 }

func (m *model) Count(n int) int {
	if !m.now().there(n) {
		return 0
	}
	return m.now().counts[n-1]
}

func (m *model) State(n int) int {
	if n < 1 || n > m.Len() {
		return 0
	}
	return map[[2]bool]int{{false, false}: free, {false, true}: pending, {true, false}: fresh, {true, true}: held}[[2]bool{m.Count(n) > 0, m.lasts[n-1]}]
}

func (m *model) Tally(state int) int {
	n := 0
	for range m.Pages(state) {
		n++
	}
	return n
}

func (m *model) Pages(state int) iter.Seq2[int, api.Page] {
	var l []api.Numbered
	for n := 1; n <= m.Len(); n++ {
		if m.State(n) == state && state == free {
			l = append(l, api.Numbered{No: n})
		} else if m.State(n) == state {
			l = append(l, api.Numbered{No: n, Page: m.now().on[n-1]})
		}
	}
	return func(yield func(int, api.Page) bool) {
		for _, x := range l {
			if !yield(x.No, x.Page) {
				return
			}
		}
	}
}

func (m *model) Undo(mark int) bool {
	if mark < m.floor || mark > m.Mark() {
		return false
	}
	m.worlds = m.worlds[:mark+1]
	return true
}

func (m *model) Settle() {
	m.keep()
	m.floor = m.Mark()
}
