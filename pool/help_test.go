package pool_test

import (
	"fmt"
	"iter"
	"slices"
	"testing"

	"coppice/api"
	"coppice/draw"
	"coppice/pool"
)

// The calls have just these types.
var (
	_ func(int, int) (*pool.Pool, api.Errno)   = pool.New
	_ func(int, []int) (*pool.Pool, api.Errno) = pool.Load
	_ func(*pool.Pool) (int, api.Errno)        = (*pool.Pool).Alloc
	_ func(*pool.Pool, int) api.Errno          = (*pool.Pool).Inc
	_ func(*pool.Pool, int) (int, api.Errno)   = (*pool.Pool).Dec
	_ func(*pool.Pool) int                     = (*pool.Pool).Len
	_ func(*pool.Pool) int                     = (*pool.Pool).Refs
	_ func(*pool.Pool, int) int                = (*pool.Pool).Count
	_ func(*pool.Pool, int) int                = (*pool.Pool).State
	_ func(*pool.Pool, int) int                = (*pool.Pool).Tally
	_ func(*pool.Pool, int) iter.Seq[int]      = (*pool.Pool).Pages
	_ func(*pool.Pool) []int                   = (*pool.Pool).Counts
	_ func(*pool.Pool) int                     = (*pool.Pool).Mark
	_ func(*pool.Pool, int) bool               = (*pool.Pool).Undo
	_ func(*pool.Pool)                         = (*pool.Pool).Settle
)

// The numbers that the document names, as it names them.
const (
	least, greatest = -9223372036854775808, 9223372036854775807
	maxPages        = 65536
	minRefs         = 2
	maxRefs         = 65535

	free, pending, fresh, held = 1, 2, 3, 4

	errArg, errSpace, errRefs, errPage = 1, 12, 13, 15
)

func newPool(t *testing.T, pages, refs int) *pool.Pool {
	t.Helper()
	p, e := pool.New(pages, refs)
	if e != 0 || p == nil {
		t.Fatalf("New(%d, %d) = %v, %d", pages, refs, p, e)
	}
	return p
}

func load(t *testing.T, refs int, counts ...int) *pool.Pool {
	t.Helper()
	p, e := pool.Load(refs, counts)
	if e != 0 || p == nil {
		t.Fatalf("Load(%d, %d counts) = %v, %d", refs, len(counts), p, e)
	}
	return p
}

// listed is the pages that Pages goes over.
func listed(p *pool.Pool, state int) []int { return slices.Collect(p.Pages(state)) }

// equal holds an answer against what is wanted.
func equal[T comparable](t *testing.T, what string, got, want T) {
	t.Helper()
	if got != want {
		t.Fatalf("%s: %v, want %v", what, got, want)
	}
}

func equalLists(t *testing.T, what string, got, want []int) {
	t.Helper()
	if !slices.Equal(got, want) {
		t.Fatalf("%s: %v, want %v", what, got, want)
	}
}

// alloc is an Alloc that must answer this.
func alloc(t *testing.T, p *pool.Pool, want int, wantE api.Errno) {
	t.Helper()
	if n, e := p.Alloc(); n != want || e != wantE {
		t.Fatalf("Alloc() = %d, %d, want %d, %d", n, e, want, wantE)
	}
}

// dec is a Dec that must answer this.
func dec(t *testing.T, p *pool.Pool, n, want int, wantE api.Errno) {
	t.Helper()
	if c, e := p.Dec(n); c != want || e != wantE {
		t.Fatalf("Dec(%d) = %d, %d, want %d, %d", n, c, e, want, wantE)
	}
}

func inc(t *testing.T, p *pool.Pool, n int, want api.Errno) {
	t.Helper()
	if e := p.Inc(n); e != want {
		t.Fatalf("Inc(%d) = %d, want %d", n, e, want)
	}
}

// states is a state for each page, from page 1 on.
func states(p *pool.Pool) []int {
	var l []int
	for n := 1; n <= p.Len(); n++ {
		l = append(l, p.State(n))
	}
	return l
}

// someStates is the four states, and numbers that are none.
func someStates() []int { return []int{least, -4, -1, 0, 1, 2, 3, 4, 5, 6, 255, 257, greatest} }

// somePages is all pages of so many, and numbers that are no page.
func somePages(pages int) []int {
	l := []int{least, least + 1, -65536, -pages, -1, 0, pages + 1, pages + 2, 65537, 65536 + pages, 1 << 32, 1<<32 + 1, greatest}
	for n := 1; n <= pages; n++ {
		l = append(l, n)
	}
	return l
}

// asked is what is asked for what can be seen.
type asked interface {
	Len() int
	Refs() int
	Count(int) int
	State(int) int
	Tally(int) int
	Pages(int) iter.Seq[int]
	Counts() []int
}

// look is all that can be seen of a pool without changing it, but for Mark.
func look(p asked) string {
	s := fmt.Sprintf("%d pages, refs %d, counts %v; ", p.Len(), p.Refs(), p.Counts())
	for _, n := range somePages(p.Len()) {
		s += fmt.Sprintf("%d: %d in %d; ", n, p.Count(n), p.State(n))
	}
	for _, state := range someStates() {
		s += fmt.Sprintf("state %d: %d: %v; ", state, p.Tally(state), slices.Collect(p.Pages(state)))
	}
	return s
}

// model is a pool as the chapter tells it, slow and plain: a list of counts for
// each act, the first one that of the beginning.
type model struct {
	refs  int
	lists [][]int
	lasts []bool
	floor int
}

func modelOf(refs int, counts ...int) *model {
	m := &model{refs: refs, lists: [][]int{slices.Clone(counts)}}
	m.keep()
	return m
}

func (m *model) keep() {
	m.lasts = nil
	for _, c := range m.now() {
		m.lasts = append(m.lasts, c > 0)
	}
}

func (m *model) now() []int { return m.lists[len(m.lists)-1] }

func (m *model) act(n, more int) {
	l := slices.Clone(m.now())
	l[n-1] += more
	m.lists = append(m.lists, l)
}

func (m *model) Len() int      { return len(m.lasts) }
func (m *model) Refs() int     { return m.refs }
func (m *model) Counts() []int { return slices.Clone(m.now()) }
func (m *model) Mark() int     { return len(m.lists) - 1 }

func (m *model) Count(n int) int {
	for i, c := range m.now() {
		if i+1 == n {
			return c
		}
	}
	return 0
}

func (m *model) State(n int) int {
	for i, c := range m.now() {
		if i+1 == n {
			return map[[2]bool]int{{false, false}: free, {false, true}: pending, {true, false}: fresh, {true, true}: held}[[2]bool{c > 0, m.lasts[i]}]
		}
	}
	return 0
}

func (m *model) pages(state int) []int {
	var l []int
	for n := 1; n <= m.Len(); n++ {
		if m.State(n) == state {
			l = append(l, n)
		}
	}
	return l
}

func (m *model) Tally(state int) int           { return len(m.pages(state)) }
func (m *model) Pages(state int) iter.Seq[int] { return slices.Values(m.pages(state)) }

func (m *model) Alloc() (int, api.Errno) {
	for _, n := range m.pages(free) {
		m.act(n, 1)
		return n, 0
	}
	return 0, errSpace
}

func (m *model) Inc(n int) api.Errno {
	switch m.Count(n) {
	case 0:
		return errPage
	case m.refs:
		return errRefs
	}
	m.act(n, 1)
	return 0
}

func (m *model) Dec(n int) (int, api.Errno) {
	if m.Count(n) == 0 {
		return 0, errPage
	}
	m.act(n, -1)
	return m.Count(n), 0
}

func (m *model) Undo(mark int) bool {
	if mark < m.floor || mark > m.Mark() {
		return false
	}
	m.lists = m.lists[:mark+1]
	return true
}

func (m *model) Settle() {
	m.keep()
	m.floor = m.Mark()
}

// called is a pool, or the model of one.
type called interface {
	asked
	Alloc() (int, api.Errno)
	Inc(int) api.Errno
	Dec(int) (int, api.Errno)
	Mark() int
	Undo(int) bool
	Settle()
}

// call is one of the calls that do something, or one that asks for all there is.
type call struct {
	name string
	n    int
}

// on is what the call answers.
func (c call) on(p called) string {
	switch c.name {
	case "Alloc":
		return fmt.Sprint(p.Alloc())
	case "Inc":
		return fmt.Sprint(p.Inc(c.n))
	case "Dec":
		return fmt.Sprint(p.Dec(c.n))
	case "Undo":
		return fmt.Sprint(p.Undo(c.n))
	case "Mark":
		return fmt.Sprint(p.Mark())
	case "Settle":
		p.Settle()
		return ""
	}
	return look(p)
}

// someCall is a call that does something, with a page that mostly there is.
func someCall(r *draw.Numbers, pages int, names ...string) call {
	c := call{names[r.Below(len(names))], 1 + r.Below(pages)}
	if r.Below(15) == 0 {
		l := somePages(pages)
		c.n = l[r.Below(len(l))]
	}
	return c
}

// someMark is a mark from some below 0 to some above Mark.
func someMark(r *draw.Numbers, mark int) int {
	switch r.Below(12) {
	case 0:
		return []int{least, greatest, -1, mark + 1, mark - 1<<32}[r.Below(5)]
	case 1, 2, 3:
		return r.Below(mark+4) - 2
	}
	return mark - r.Below(6)
}

// same holds two against each other: what a call answers, and what is to be seen
// behind it.
func same(t *testing.T, what string, got, want called, c call) {
	t.Helper()
	if a, b := c.on(got), c.on(want); a != b {
		t.Fatalf("%s: %s(%d) = %s, want %s", what, c.name, c.n, a, b)
	}
	if a, b := look(got), look(want); a != b {
		t.Fatalf("%s: behind %s(%d):\n%s, want\n%s", what, c.name, c.n, a, b)
	}
}

// counts is counts that are often 0 or refs.
func someCounts(r *draw.Numbers, pages, refs int) []int {
	l := make([]int, pages)
	for i := range l {
		l[i] = []int{0, 0, 0, 1, 1, 2, refs, r.Below(refs + 1)}[r.Below(8)]
	}
	return l
}
