package super_test

import (
	"slices"
	"strconv"
	"testing"

	"coppice/api"
	"coppice/draw"
	"coppice/super"
)

func TestExamplesOfCheck(t *testing.T) {
	checks(t, "the first one", first(), api.OK)
	checks(t, "Gen -1", changed(first(), func(s *api.Super) { s.Gen = -1 }), api.ErrMany)
	checks(t, "Next 0", changed(first(), func(s *api.Super) { s.Next = 0 }), api.ErrMany)
	checks(t, "two roots", changed(first(), func(s *api.Super) { s.Roots = make([]api.Root, 2) }), api.ErrMany)
	five := api.Super{Gen: 5, Config: api.Config{Blocks: 8, Clones: 2, Refs: 2}, Next: 3}
	checks(t, "ids 2 and 1", rooted(five, api.Root{Id: 2}, api.Root{Id: 1}), api.ErrOrder)
	checks(t, "ids 1 and 3", rooted(five, api.Root{Id: 1}, api.Root{Id: 3}), api.ErrOrder)
	for _, tree := range []api.Tree{{Root: 5, Height: 1, Items: 1}, {Root: 1, Items: 1}, {Root: 1, Height: 1, Items: 33}, {Items: 1}} {
		checks(t, "no tree", rooted(five, api.Root{Id: 2, Tree: tree}), api.ErrForm)
	}
}

// changed is the superblock with something else in it; what was handed in stays.
func changed(s api.Super, by ...func(s *api.Super)) api.Super {
	s.Roots = slices.Clone(s.Roots)
	for _, f := range by {
		f(&s)
	}
	return s
}

func rooted(s api.Super, roots ...api.Root) api.Super {
	s.Roots = roots
	return s
}

// fault makes a superblock wrong in one thing, for which Check has this error.
type fault struct {
	what string
	e    api.Errno
	lay  func(s *api.Super)
}

// faults are all that can be wrong with small(), each a fault by itself and beside
// all others of other fields.
func faults() []fault {
	var l []fault
	far := []int{-1, -2, least, least + 1, greatest, greatest - 1, 1<<41 + 1}
	number := func(what string, e api.Errno, field func(s *api.Super) *int, wrong ...int) {
		for _, x := range append(wrong, far...) {
			l = append(l, fault{what + " " + strconv.Itoa(x), e, func(s *api.Super) { *field(s) = x }})
		}
	}
	number("Blocks", api.ErrArg, func(s *api.Super) *int { return &s.Config.Blocks }, 0, 7, 65537, 1<<32+8)
	number("Clones", api.ErrArg, func(s *api.Super) *int { return &s.Config.Clones }, 0, 17, 256+3)
	number("Refs", api.ErrArg, func(s *api.Super) *int { return &s.Config.Refs }, 0, 1, 65536, 1<<32+9)
	number("Gen", api.ErrMany, func(s *api.Super) *int { return &s.Gen }, 1<<40+1)
	number("Next", api.ErrMany, func(s *api.Super) *int { return &s.Next }, 0, 1<<31+1, 1<<32+7)
	for _, n := range []int{4, 16, 17, 256, 257, 300} {
		l = append(l, fault{strconv.Itoa(n) + " roots", api.ErrMany, func(s *api.Super) {
			for len(s.Roots) < n {
				s.Roots = append(s.Roots, api.Root{Id: len(s.Roots) + 1})
			}
		}})
	}
	number("first id", api.ErrOrder, func(s *api.Super) *int { return &s.Roots[0].Id }, 0, 6, 7, 1<<32+2)
	number("last id", api.ErrOrder, func(s *api.Super) *int { return &s.Roots[1].Id }, 0, 1, 2, 7, 8, 1<<32+6)
	number("Root", api.ErrForm, func(s *api.Super) *int { return &s.Roots[0].Tree.Root }, 0, 5, 8, 1<<32+4)
	number("Height", api.ErrForm, func(s *api.Super) *int { return &s.Roots[0].Tree.Height }, 0, 13, 256+2)
	number("Items", api.ErrForm, func(s *api.Super) *int { return &s.Roots[0].Tree.Items }, 0, 33, 1<<32+9)
	number("last Root", api.ErrForm, func(s *api.Super) *int { return &s.Roots[1].Tree.Root }, 1, 4, 5)
	number("last Height", api.ErrForm, func(s *api.Super) *int { return &s.Roots[1].Tree.Height }, 1, 12, 13)
	number("last Items", api.ErrForm, func(s *api.Super) *int { return &s.Roots[1].Tree.Items }, 1, 32, 33)
	return l
}

// place is where an error stands in the row in which Check asks.
func place(e api.Errno) int {
	return slices.Index([]api.Errno{api.ErrArg, api.ErrMany, api.ErrOrder, api.ErrForm, api.OK}, e)
}

func earlier(a, b api.Errno) api.Errno {
	if place(a) < place(b) {
		return a
	}
	return b
}

func TestP9_3EachFaultAlone(t *testing.T) {
	checks(t, "no fault", small(), api.OK)
	for _, f := range faults() {
		checks(t, f.what, changed(small(), f.lay), f.e)
	}
}

// Two and three faults: that which is named first is told.
func TestP9_3FaultsTogether(t *testing.T) {
	all := faults()
	for _, f := range all {
		for _, g := range all {
			two := changed(small(), f.lay, g.lay)
			want := earlier(f.e, g.e)
			if f.e == g.e { // of two numbers of one field the last one stands
				want = modelCheck(two)
			}
			checks(t, f.what+" and "+g.what, two, want)
		}
	}
	r := draw.Numbers(93)
	for range 60000 {
		f, g, h := all[r.Below(len(all))], all[r.Below(len(all))], all[r.Below(len(all))]
		s := changed(small(), f.lay, g.lay, h.lay)
		want := modelCheck(s)
		if f.e != g.e && g.e != h.e && f.e != h.e {
			want = earlier(f.e, earlier(g.e, h.e))
		}
		checks(t, f.what+", "+g.what+" and "+h.what, s, want)
	}
}

func TestP9_3Limits(t *testing.T) {
	for _, gen := range []int{0, 1, 255, 256, 1 << 32, mostGen - 1, mostGen} {
		checks(t, "a generation", changed(small(), func(s *api.Super) { s.Gen = gen }), api.OK)
	}
	for _, next := range []int{1, 2, 1 << 16, mostId - 1, mostId, mostId + 1} {
		checks(t, "a Next", changed(first(), func(s *api.Super) { s.Next = next }), api.OK)
	}
	for _, c := range []api.Config{{Blocks: 8, Clones: 1, Refs: 2}, {Blocks: 65536, Clones: 16, Refs: 65535}} {
		checks(t, "a config", api.Super{Config: c, Next: 1}, api.OK)
	}
	checks(t, "all at its greatest", full(), api.OK)
	checks(t, "nothing at all", api.Super{}, api.ErrArg)
}

func TestP9_3HowManyRoots(t *testing.T) {
	for clones := 1; clones <= mostClones; clones++ {
		for n := 0; n <= mostClones+1; n++ {
			s := api.Super{Config: api.Config{Blocks: 8, Clones: clones, Refs: 2}, Next: 100}
			for i := range n {
				s.Roots = append(s.Roots, api.Root{Id: 2*i + 1})
			}
			want := api.OK
			if n > clones {
				want = api.ErrMany
			}
			checks(t, strconv.Itoa(n)+" roots", s, want)
		}
	}
}

func TestP9_3Ids(t *testing.T) {
	ids := func(next int, want api.Errno, ids ...int) {
		t.Helper()
		s := api.Super{Config: api.Config{Blocks: 8, Clones: 4, Refs: 2}, Next: next}
		for _, id := range ids {
			s.Roots = append(s.Roots, api.Root{Id: id})
		}
		checks(t, "ids", s, want)
	}
	ids(1, api.OK)
	ids(1, api.ErrOrder, 1)
	ids(1, api.ErrOrder, 0)
	ids(2, api.OK, 1)
	ids(2, api.ErrOrder, 2)
	ids(2, api.ErrOrder, 1, 1)
	ids(5, api.OK, 1, 2, 3, 4)
	ids(5, api.ErrOrder, 2, 3, 4, 5)
	ids(5, api.ErrOrder, 0, 2, 3, 4)
	ids(5, api.ErrOrder, -1, 2, 3, 4)
	ids(5, api.ErrOrder, 1, 3, 2, 4)
	ids(5, api.ErrOrder, 1, 2, 2, 4)
	ids(5, api.ErrOrder, 1, 2, 4, 4)
	ids(5, api.ErrOrder, 1, 2, 4, 3)
	ids(5, api.ErrOrder, 4, 3)
	ids(5, api.ErrOrder, 3, 5, 4)
	ids(mostId+1, api.OK, mostId-1, mostId)
	ids(mostId+1, api.ErrOrder, mostId, mostId+1)
	ids(mostId, api.ErrOrder, mostId-1, mostId)
	ids(mostId+1, api.ErrOrder, greatest)
	ids(mostId+1, api.ErrOrder, least)
	ids(mostId+1, api.ErrOrder, 1, least)
}

// Trees at each limit of each number, and one beyond, and with zeros.
func TestP9_3Trees(t *testing.T) {
	for _, blocks := range []int{8, 9, 247, 65536} {
		pages := modelPages(blocks)
		s := api.Super{Config: api.Config{Blocks: blocks, Clones: 3, Refs: 2}, Next: 9}
		ends := []int{-1, 0, 1, 2, least, greatest}
		for _, root := range append(ends, pages-1, pages, pages+1, blocks) {
			for _, height := range append(ends, 11, 12, 13) {
				for _, items := range append(ends, 8*pages-1, 8*pages, 8*pages+1) {
					tree := api.Tree{Root: root, Height: height, Items: items}
					want := api.ErrForm
					if tree == (api.Tree{}) || root >= 1 && root <= pages && height >= 1 && height <= 12 && items >= 1 && items <= 8*pages {
						want = api.OK
					}
					checks(t, "a tree", rooted(s, api.Root{Id: 4, Tree: tree}), want)
					checks(t, "a last tree", rooted(s, api.Root{Id: 4}, api.Root{Id: 8, Tree: tree}), want)
					checks(t, "a tree in the middle", rooted(s, api.Root{Id: 4}, api.Root{Id: 5, Tree: tree}, api.Root{Id: 8}), want)
				}
			}
		}
	}
}

// Several roots may have one tree: that of a clone is the same.
func TestP9_3OneTreeTwice(t *testing.T) {
	tree := api.Tree{Root: 1, Height: 1, Items: 1}
	s := api.Super{Config: api.Config{Blocks: 8, Clones: 3, Refs: 2}, Next: 9}
	checks(t, "a tree twice", rooted(s, api.Root{Id: 1, Tree: tree}, api.Root{Id: 2, Tree: tree}, api.Root{Id: 3}), api.OK)
}

func TestR3NoRoots(t *testing.T) {
	for _, roots := range [][]api.Root{nil, {}, make([]api.Root, 0, 9)} {
		checks(t, "no roots", rooted(first(), roots...), api.OK)
		s := first()
		s.Roots = roots
		if tree, ok := super.Find(s, 0); ok || tree != (api.Tree{}) {
			t.Errorf("Find in no roots = %v, %v", tree, ok)
		}
	}
}

func TestP9_6Find(t *testing.T) {
	a, b, c := api.Tree{Root: 4, Height: 1, Items: 3}, api.Tree{Root: 2, Height: 1, Items: 5}, api.Tree{}
	s := api.Super{Roots: []api.Root{{Id: 2, Tree: a}, {Id: 5, Tree: b}, {Id: 9, Tree: c}}}
	found(t, s, 2, a)
	found(t, s, 5, b)
	found(t, s, 9, c)
	for _, id := range []int{0, 1, 3, 4, 6, 8, 10, -1, -2, 1<<32 + 2, greatest, least} {
		notFound(t, s, id)
	}
	notFound(t, api.Super{}, 0)
	notFound(t, api.Super{}, 1)
	for i, r := range full().Roots {
		found(t, full(), r.Id, full().Roots[i].Tree)
	}
}

// A superblock that Check does not take is looked through as well.
func TestP9_6FindInAnySuper(t *testing.T) {
	a, b := api.Tree{Root: -4, Height: 99, Items: 3}, api.Tree{Root: greatest, Height: least}
	s := api.Super{Gen: -1, Next: -7, Roots: []api.Root{{Id: 7, Tree: a}, {Id: -3, Tree: b}, {Id: 7, Tree: b}, {Tree: a}, {Id: 0}, {Id: greatest, Tree: b}, {Id: least, Tree: a}}}
	found(t, s, 7, a)
	found(t, s, -3, b)
	found(t, s, 0, a)
	found(t, s, greatest, b)
	found(t, s, least, a)
	notFound(t, s, 1)
	twice := api.Super{Roots: []api.Root{{Id: 4}, {Id: 4, Tree: a}}}
	found(t, twice, 4, api.Tree{})
	many := api.Super{}
	for i := range 1000 {
		many.Roots = append(many.Roots, api.Root{Id: i, Tree: api.Tree{Root: i + 1}})
	}
	found(t, many, 999, api.Tree{Root: 1000})
	found(t, many, 0, api.Tree{Root: 1})
	notFound(t, many, 1000)
}

func found(t *testing.T, s api.Super, id int, want api.Tree) {
	t.Helper()
	if tree, ok := super.Find(s, id); !ok || tree != want {
		t.Fatalf("Find(%d) = %v, %v; want %v", id, tree, ok, want)
	}
}

func notFound(t *testing.T, s api.Super, id int) {
	t.Helper()
	if tree, ok := super.Find(s, id); ok || tree != (api.Tree{}) {
		t.Fatalf("Find(%d) = %v, %v; want none", id, tree, ok)
	}
}
