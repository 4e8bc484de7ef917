package grove_test

import (
	"testing"

	"coppice/api"
	"coppice/draw"
	"coppice/grove"
	"coppice/node"
	"coppice/span"
	"coppice/vault"
	"coppice/view"
	"coppice/walk"
)

func equal[T comparable](t *testing.T, what string, got, want T) {
	t.Helper()
	if got != want {
		t.Fatalf("%s: %v, want %v", what, got, want)
	}
}

func vaultOf(t *testing.T, s *grove.Store) *vault.Vault {
	t.Helper()
	v, e := s.Vault()
	equal(t, "Vault", e, 0)
	return v
}

// Trees are sound, of the height that was asked for, and tell what they must.
func TestTrees(t *testing.T) {
	r := draw.Numbers(1)
	heights := map[int]int{}
	for _, g := range grove.Trees(&r, 4) {
		v := vaultOf(t, grove.StoreOf(9, g.Pages, 0))
		equal(t, "Check", walk.Check(v, g.Tree), 0)
		l, e := walk.List(v, g.Tree, api.Range{Open: true})
		equal(t, "List", e, 0)
		equal(t, "keys", len(l), len(g.Pairs))
		for k, x := range l {
			equal(t, "a pair", string(x.Key)+string(x.Value), string(g.Pairs[k].Key)+string(g.Pairs[k].Value))
		}
		for n, c := range grove.Led(v, g.Tree) {
			equal(t, "the count", v.Count(n), c)
		}
		heights[g.Tree.Height]++
	}
	for h := 1; h <= 4; h++ {
		equal(t, "each height", heights[h] > 1, true)
		g := grove.Grow(&r, grove.Pairs(&r, grove.Fewest(h), 0), grove.Few)
		equal(t, "the fewest keys", g.Tree.Height, h)
	}
}

// Trees of which one page of each level is full, or each one is.
func TestFullPages(t *testing.T) {
	r := draw.Numbers(4)
	for h, n := 1, 8; h <= 4; h, n = h+1, 8*n {
		for _, c := range []struct {
			keys int
			take grove.Share
			full func(at, of int) bool
		}{
			{grove.Edge(h), grove.Left, func(at, _ int) bool { return at == 0 }},
			{grove.Edge(h), grove.Right, func(at, of int) bool { return at == of-1 }},
			{n, grove.Many, func(_, _ int) bool { return true }},
		} {
			g := grove.Grow(&r, grove.Pairs(&r, c.keys, 0), c.take)
			equal(t, "Height", g.Tree.Height, h)
			equal(t, "Check", walk.Check(vaultOf(t, grove.StoreOf(9, g.Pages, 0)), g.Tree), 0)
			for _, level := range g.Levels {
				for at, s := range level {
					want := 4
					if c.full(at, len(level)) {
						want = 8
					}
					equal(t, "items", len(g.Pages[s.No-1].Items), want)
				}
			}
		}
	}
}

// Trees whose pages have as many items as was asked for.
func TestSized(t *testing.T) {
	r := draw.Numbers(5)
	for _, levels := range [][][]int{
		{{3}}, {{8}}, {{4, 4}, {2}}, {{4, 8}, {2}}, {{8, 4, 4}, {3}}, {{5, 4, 6, 8, 4, 7}, {6}},
		{{4, 5, 4, 4, 4, 4, 4, 8, 6}, {5, 4}, {2}}, {{4, 4, 4, 4, 7, 4, 4, 4}, {4, 4}, {2}},
	} {
		keys := 0
		for _, n := range levels[0] {
			keys += n
		}
		g := grove.Grow(&r, grove.Pairs(&r, keys, 0), grove.Sized(levels...))
		equal(t, "Check", walk.Check(vaultOf(t, grove.StoreOf(9, g.Pages, 0)), g.Tree), 0)
		equal(t, "Height", g.Tree.Height, len(levels))
		for k, level := range g.Levels {
			for at, s := range level {
				equal(t, "items", len(g.Pages[s.No-1].Items), levels[k][at])
			}
		}
	}
}

// Trees in settings of all kinds stand there together, and just so many pages are left
// free as are asked for.
func TestSettings(t *testing.T) {
	r := draw.Numbers(6)
	isThere := map[bool]int{}
	for round := range 200 {
		g := grove.Any(&r, 1+round%3)
		s, trees := grove.Settings(&r).Lay(&r, g)
		v := vaultOf(t, s)
		for n, c := range grove.Led(v, trees...) {
			equal(t, "the count", v.Count(n) >= c && v.Count(n) <= v.Refs(), true)
		}
		for left := s.Tally(api.Free); left >= 0; left-- {
			s.Leave(&r, left)
			equal(t, "Free", vaultOf(t, s).Tally(api.Free), left)
		}
		for _, x := range trees {
			equal(t, "Check", walk.Check(vaultOf(t, s), x), 0)
		}
		key := g.SomeKey(&r)
		_, is, e := walk.Get(v, g.Tree, key)
		equal(t, "Get", e, 0)
		isThere[is]++
		for _, p := range g.Pages {
			if p.Kind == api.Index {
				equal(t, "Lies", grove.Lies(p, key), node.Route(p, key))
			}
		}
	}
	equal(t, "keys that are there, and others", isThere[true] > 20 && isThere[false] > 20, true)
}

// The shortest key between two is what span finds.
func TestShortest(t *testing.T) {
	r := draw.Numbers(7)
	for range 20000 {
		a, b := grove.Key(&r), grove.Key(&r)
		want, _ := span.Between(a, b)
		equal(t, "Shortest", string(grove.Shortest(a, b)), string(want))
	}
}

// A vault has what its store has, and a store what its vault has; each difference is
// told.
func TestStoreAndVault(t *testing.T) {
	r := draw.Numbers(2)
	for _, g := range grove.Trees(&r, 2) {
		s := grove.StoreOf(4, g.Pages, 3)
		for k, p := range s.On {
			if p.Kind != 0 {
				s.Counts[k] = r.Below(5)
				s.Lasts[k] = r.Below(2)
			}
		}
		v := vaultOf(t, s)
		equal(t, "Differs", s.Differs(v), 0)
		equal(t, "Differs from its own", grove.StoreFrom(v).Differs(vaultOf(t, grove.StoreFrom(v))), 0)
		for n := 1; n <= v.Len(); n++ {
			equal(t, "Count", v.Count(n), s.Counts[n-1])
			equal(t, "State", v.State(n), s.State(n))
		}
		for state := api.Free; state <= api.Held; state++ {
			equal(t, "Tally", v.Tally(state), s.Tally(state))
		}
		n := 1 + r.Below(v.Len())
		for _, change := range []func(*grove.Store){
			func(s *grove.Store) { s.Counts[n-1]++ },
			func(s *grove.Store) { s.Lasts[n-1] ^= 1 },
			func(s *grove.Store) {
				s.On[n-1], s.Counts[n-1] = api.Page{Kind: api.Blob, Data: []byte("other")}, max(1, s.Counts[n-1])
			},
		} {
			other := s.Copy()
			change(other)
			equal(t, "Differs", other.Differs(v), n)
		}
		equal(t, "a copy is another one", s.Differs(v), 0)
	}
}

// Pages are the same just where their texts are.
func TestSame(t *testing.T) {
	pages := []api.Page{{}, {Kind: 1}, {Level: 1}, {Next: 1}, {Data: []byte{0}}, {Data: []byte{}}}
	for _, i := range []api.Item{{}, {Key: []byte{0}}, {Key: []byte{}}, {Value: []byte{0}}, {Child: 1}, {Size: 1}} {
		pages = append(pages, api.Page{Items: []api.Item{i}}, api.Page{Items: []api.Item{{}, i}})
	}
	for _, p := range pages {
		for _, q := range pages {
			equal(t, view.Page(p)+" and "+view.Page(q), grove.Same(p, q), view.Page(p) == view.Page(q))
		}
	}
}

// What is done to a store is what is done to a vault.
func TestSteps(t *testing.T) {
	r, met := draw.Numbers(3), map[string]int{}
	for range 300 {
		g := grove.Grow(&r, grove.Pairs(&r, 1+r.Below(60), 3000), grove.Some(&r))
		s := grove.StoreOf(2+r.Below(2), g.Pages, r.Below(3))
		for range 30 {
			v, n := vaultOf(t, s), 1+r.Below(len(s.Counts))
			next := s.Copy()
			switch what := r.Below(5); {
			case what == 0:
				p := api.Page{Kind: api.Blob, Data: []byte("x")}
				a, e := next.Make(p)
				b, f := v.Make(p)
				equal(t, "Make", a, b)
				equal(t, "Make", e, f)
				met["Make"] += int(e) + 1
			case what == 1 && s.Counts[n-1] > 0:
				a, e := next.Shadow(n)
				b, f := v.Shadow(n)
				equal(t, "Shadow", a, b)
				equal(t, "Shadow", e, f)
				if e != 0 {
					next = s.Copy()
				}
				met["Shadow"] += int(e) + 1
			case what == 2 && s.Counts[n-1] > 0:
				if v.Drop(n) == 0 {
					next.Drop(n)
					met["Drop"]++
				}
			case what == 3 && s.Counts[n-1] > 0:
				_, e := v.Take(n)
				equal(t, "Take", next.Take(n), e)
				if e != 0 {
					next = s.Copy()
				}
				met["Take"] += int(e) + 1
			case what == 4 && r.Below(5) == 0:
				next.Settle()
				v.Settle()
				met["Settle"]++
			}
			equal(t, "Differs", next.Differs(v), 0)
			s = next
		}
	}
	for _, what := range []string{"Make", "Shadow", "Drop", "Take", "Settle"} {
		equal(t, what, met[what] > 100, true)
	}
}
