package vault_test

import (
	"fmt"
	"iter"
	"slices"
	"strings"
	"testing"

	"coppice/api"
	"coppice/draw"
	"coppice/vault"
)

// The calls have just these types.
var (
	_ func(int, int) (*vault.Vault, api.Errno)                   = vault.New
	_ func(int, []int, []api.Numbered) (*vault.Vault, api.Errno) = vault.Load
	_ func(*vault.Vault, int) (api.Page, api.Errno)              = (*vault.Vault).Read
	_ func(*vault.Vault, api.Page) (int, api.Errno)              = (*vault.Vault).Make
	_ func(*vault.Vault, int, api.Page) api.Errno                = (*vault.Vault).Write
	_ func(*vault.Vault, int) (int, api.Errno)                   = (*vault.Vault).Shadow
	_ func(*vault.Vault, int) (api.Page, api.Errno)              = (*vault.Vault).Take
	_ func(*vault.Vault, int) api.Errno                          = (*vault.Vault).Keep
	_ func(*vault.Vault, int) api.Errno                          = (*vault.Vault).Drop
	_ func(*vault.Vault) int                                     = (*vault.Vault).Len
	_ func(*vault.Vault) int                                     = (*vault.Vault).Refs
	_ func(*vault.Vault, int) int                                = (*vault.Vault).Count
	_ func(*vault.Vault, int) int                                = (*vault.Vault).State
	_ func(*vault.Vault, int) int                                = (*vault.Vault).Tally
	_ func(*vault.Vault) []int                                   = (*vault.Vault).Counts
	_ func(*vault.Vault, int) iter.Seq2[int, api.Page]           = (*vault.Vault).Pages
	_ func(*vault.Vault) int                                     = (*vault.Vault).Mark
	_ func(*vault.Vault, int) bool                               = (*vault.Vault).Undo
	_ func(*vault.Vault)                                         = (*vault.Vault).Settle
)

// The numbers that the document names, as it names them.
const (
	least, greatest = -9223372036854775808, 9223372036854775807
	maxPages        = 65536
	minRefs         = 2
	maxRefs         = 65535

	free, pending, fresh, held = 1, 2, 3, 4

	errArg, errForm, errKey, errValue, errNone, errTwice = 1, 5, 7, 8, 9, 10
	errOrder, errSpace, errRefs, errPage, errKind        = 11, 12, 13, 15, 22
	leafKind, indexKind, blobKind, mostItems, mostInBlob = 1, 2, 3, 8, 480
)

// L is a leaf with these keys, each with the value of no byte.
func L(keys ...string) api.Page {
	p := api.Page{Kind: leafKind}
	for _, k := range keys {
		p.Items = append(p.Items, api.Item{Key: []byte(k)})
	}
	return p
}

// N is an index of the level 1 with these children, the separators m, n and so on.
func N(kids ...int) api.Page {
	p := api.Page{Kind: indexKind, Level: 1}
	for i, kid := range kids {
		it := api.Item{Child: kid}
		if i > 0 {
			it.Key = []byte{byte('m' + i - 1)}
		}
		p.Items = append(p.Items, it)
	}
	return p
}

// B is a blob of the byte 7 that leads on to next.
func B(next int) api.Page { return api.Page{Kind: blobKind, Data: []byte{7}, Next: next} }

// V is a leaf with long values, whose first pages these are, and short ones between.
func V(kids ...int) api.Page {
	p := L("a")
	for i, kid := range kids {
		key := []byte{'b', byte(i)}
		p.Items = append(p.Items, api.Item{Key: key, Size: 33 + i, Child: kid})
	}
	p.Items = append(p.Items, api.Item{Key: []byte("c"), Value: []byte("xy"), Size: 2})
	return p
}

// text is a page as a text; nil and an empty list are the same there.
func text(p api.Page) string {
	var s strings.Builder
	fmt.Fprintf(&s, "%d/%d", p.Kind, p.Level)
	for _, it := range p.Items {
		fmt.Fprintf(&s, " %x=%x>%d#%d", it.Key, it.Value, it.Child, it.Size)
	}
	fmt.Fprintf(&s, " %x>%d", p.Data, p.Next)
	return s.String()
}

// wrongPages is pages that page.Check refuses, and by which error.
func wrongPages() map[api.Errno]api.Page {
	order, value, key := L("b", "a"), L("a"), L("a")
	value.Items[0].Size = 1
	key.Items[0].Key = nil
	return map[api.Errno]api.Page{
		errKind: {}, errForm: L(), errKey: key, errOrder: order, errValue: value, errPage: N(1, 0),
	}
}

func newVault(t *testing.T, pages, refs int) *vault.Vault {
	t.Helper()
	v, e := vault.New(pages, refs)
	if e != 0 || v == nil {
		t.Fatalf("New(%d, %d) = %v, %d", pages, refs, v, e)
	}
	return v
}

// numbered is these pages, from page 1 on; the zero Page: none stands there.
func numbered(pages ...api.Page) []api.Numbered {
	var l []api.Numbered
	for i, p := range pages {
		if p.Kind != 0 {
			l = append(l, api.Numbered{No: i + 1, Page: p})
		}
	}
	return l
}

func load(t *testing.T, refs int, counts []int, pages ...api.Page) *vault.Vault {
	t.Helper()
	v, e := vault.Load(refs, counts, numbered(pages...))
	if e != 0 || v == nil {
		t.Fatalf("Load(%d, %v, ..) = %v, %d", refs, counts, v, e)
	}
	return v
}

// equal holds an answer against what is wanted.
func equal[T comparable](t *testing.T, what string, got, want T) {
	t.Helper()
	if got != want {
		t.Fatalf("%s: %v, want %v", what, got, want)
	}
}

func equalLists(t *testing.T, what string, got, want []int) {
	t.Helper()
	if !slices.Equal(got, want) {
		t.Fatalf("%s: %v, want %v", what, got, want)
	}
}

// These are calls that must answer so.

func makes(t *testing.T, v called, p api.Page, want int, wantE api.Errno) {
	t.Helper()
	if n, e := v.Make(p); n != want || e != wantE {
		t.Fatalf("Make(%s) = %d, %d; want %d, %d", text(p), n, e, want, wantE)
	}
}

func shadows(t *testing.T, v called, n, want int, wantE api.Errno) {
	t.Helper()
	if s, e := v.Shadow(n); s != want || e != wantE {
		t.Fatalf("Shadow(%d) = %d, %d; want %d, %d", n, s, e, want, wantE)
	}
}

func takes(t *testing.T, v called, n int, want api.Page, wantE api.Errno) {
	t.Helper()
	if p, e := v.Take(n); text(p) != text(want) || e != wantE {
		t.Fatalf("Take(%d) = %s, %d; want %s, %d", n, text(p), e, text(want), wantE)
	}
}

func reads(t *testing.T, v called, n int, want api.Page, wantE api.Errno) {
	t.Helper()
	if p, e := v.Read(n); text(p) != text(want) || e != wantE {
		t.Fatalf("Read(%d) = %s, %d; want %s, %d", n, text(p), e, text(want), wantE)
	}
}

func writes(t *testing.T, v called, n int, p api.Page, want api.Errno) {
	t.Helper()
	equal(t, fmt.Sprintf("Write(%d, %s)", n, text(p)), v.Write(n, p), want)
}

func keeps(t *testing.T, v called, n int, want api.Errno) {
	t.Helper()
	equal(t, fmt.Sprintf("Keep(%d)", n), v.Keep(n), want)
}

func drops(t *testing.T, v called, n int, want api.Errno) {
	t.Helper()
	equal(t, fmt.Sprintf("Drop(%d)", n), v.Drop(n), want)
}

// unchanged does something, behind which all must be as it was, Mark too, and so
// must be how it goes on from there.
func unchanged(t *testing.T, v *vault.Vault, do func()) {
	t.Helper()
	seen, mark := look(v), v.Mark()
	do()
	equal(t, "behind a call that does nothing", look(v), seen)
	equal(t, "Mark behind it", v.Mark(), mark)
	equal(t, "Undo(Mark) behind it", v.Undo(mark), true)
	equal(t, "behind Undo(Mark)", look(v), seen)
}

// states is a state for each page, from page 1 on.
func states(v called) []int {
	var l []int
	for n := 1; n <= v.Len(); n++ {
		l = append(l, v.State(n))
	}
	return l
}

func tallies(v called) [4]int {
	return [4]int{v.Tally(free), v.Tally(pending), v.Tally(fresh), v.Tally(held)}
}

// listed is what Pages goes over.
func listed(walk iter.Seq2[int, api.Page]) string {
	var s strings.Builder
	for n, p := range walk {
		fmt.Fprintf(&s, "%d: %s; ", n, text(p))
	}
	return s.String()
}

// someStates is the four states, and numbers that are none.
func someStates() []int { return []int{1, 2, 3, 4, least, -1, 0, 5, 257, greatest} }

// noPages is numbers that are no page of so many.
func noPages(pages int) []int {
	return []int{least, least + 1, -65536, -pages, -1, 0, pages + 1, pages + 2, 65537, 65536 + pages, 1 << 32, 1<<32 + 1, greatest}
}

// look is all that can be seen of a vault without changing it, but for Mark.
func look(v called) string {
	var s strings.Builder
	fmt.Fprintf(&s, "%d pages, refs %d, counts %v; ", v.Len(), v.Refs(), v.Counts())
	for n := -1; n <= v.Len()+2; n++ {
		p, e := v.Read(n)
		fmt.Fprintf(&s, "%d: %d in %d: %s, %d; ", n, v.Count(n), v.State(n), text(p), e)
	}
	for _, state := range someStates()[:7] {
		fmt.Fprintf(&s, "state %d: %d: %s", state, v.Tally(state), listed(v.Pages(state)))
	}
	return s.String()
}

// called is a vault, or the model of one.
type called interface {
	Read(int) (api.Page, api.Errno)
	Make(api.Page) (int, api.Errno)
	Write(int, api.Page) api.Errno
	Shadow(int) (int, api.Errno)
	Take(int) (api.Page, api.Errno)
	Keep(int) api.Errno
	Drop(int) api.Errno
	Len() int
	Refs() int
	Count(int) int
	State(int) int
	Tally(int) int
	Counts() []int
	Pages(int) iter.Seq2[int, api.Page]
	Mark() int
	Undo(int) bool
	Settle()
}

// call is one of the calls that do something.
type call struct {
	name string
	n    int
	p    api.Page
}

// on is what the call answers, and the error among that.
func (c call) on(v called) (answer string, e api.Errno) {
	n, p := 0, api.Page{}
	switch c.name {
	case "Make":
		n, e = v.Make(c.p)
	case "Write":
		e = v.Write(c.n, c.p)
	case "Shadow":
		n, e = v.Shadow(c.n)
	case "Take":
		p, e = v.Take(c.n)
	case "Keep":
		e = v.Keep(c.n)
	case "Drop":
		e = v.Drop(c.n)
	case "Undo":
		return fmt.Sprint(v.Undo(c.n)), 0
	case "Settle":
		v.Settle()
		return "", 0
	default:
		panic(c.name)
	}
	return fmt.Sprint(n, e, text(p)), e
}

func (c call) String() string { return fmt.Sprintf("%s(%d, %s)", c.name, c.n, text(c.p)) }

// same holds two against each other: what a call answers, and what is to be seen
// behind it.
func same(t *testing.T, what string, got, want called, c call) {
	t.Helper()
	a, _ := c.on(got)
	b, _ := c.on(want)
	if a != b {
		t.Fatalf("%s: %v = %s, want %s", what, c, a, b)
	}
	if a, b := look(got), look(want); a != b {
		t.Fatalf("%s: behind %v:\n%s, want\n%s", what, c, a, b)
	}
	if a, b := got.Mark(), want.Mark(); a != b {
		t.Fatalf("%s: behind %v Mark is %d, want %d", what, c, a, b)
	}
}

// somePage is a page of any kind that leads to pages of so many, to one more now
// and then, and that now and then is none.
func somePage(r *draw.Numbers, pages int) api.Page {
	kids := make([]int, 2+r.Below(3))
	for i := range kids {
		kids[i] = 1 + r.Below(pages+r.Below(2))
	}
	switch r.Below(10) {
	case 0, 1:
		return N(kids...)
	case 2, 3:
		return V(kids[:r.Below(len(kids))]...)
	case 4, 5:
		return B(kids[0])
	case 6, 7:
		return api.Page{Kind: blobKind, Data: r.Bytes(1 + r.Below(3))}
	case 8:
		return L(string(r.Bytes(1)))
	}
	wrong := []api.Errno{errKind, errForm, errKey, errOrder, errValue, errPage}
	return wrongPages()[wrong[r.Below(len(wrong))]]
}

// someCall is a call of one of these names, with a page that mostly there is.
func someCall(r *draw.Numbers, v called, names ...string) call {
	c := call{name: names[r.Below(len(names))], n: 1 + r.Below(v.Len())}
	if r.Below(3) > 0 {
		var there []int
		for n := 1; n <= v.Len(); n++ {
			if v.Count(n) > 0 {
				there = append(there, n)
			}
		}
		if len(there) > 0 {
			c.n = there[r.Below(len(there))]
		}
	}
	if r.Below(30) == 0 {
		l := noPages(v.Len())
		c.n = l[r.Below(len(l))]
	}
	switch c.name {
	case "Make", "Write":
		c.p = somePage(r, v.Len())
	case "Undo":
		c.n = someMark(r, v.Mark())
	}
	return c
}

// someMark is a mark from some below 0 to some above Mark.
func someMark(r *draw.Numbers, mark int) int {
	switch r.Below(12) {
	case 0:
		return []int{least, greatest, -1, mark + 1, mark - 1<<32}[r.Below(5)]
	case 1, 2, 3:
		return r.Below(mark+4) - 2
	}
	return mark - r.Below(6)
}

// someVault is a vault of a few pages with something on them that lasts, and a
// model of it.
func someVault(t *testing.T, r *draw.Numbers) (*vault.Vault, *model) {
	t.Helper()
	refs := []int{minRefs, 3, 5, maxRefs}[r.Below(4)]
	counts := make([]int, 1+r.Below(8))
	pages := make([]api.Page, len(counts))
	for i := range counts {
		counts[i] = []int{0, 0, 0, 0, 1, 1, 2, refs}[r.Below(8)]
		for counts[i] > 0 && (pages[i].Kind == 0 || isWrong(pages[i])) {
			pages[i] = somePage(r, len(counts))
		}
	}
	return load(t, refs, counts, pages...), modelOf(refs, counts, pages...)
}
