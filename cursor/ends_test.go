package cursor_test

import (
	"fmt"
	"testing"

	"coppice/api"
	"coppice/cursor"
	"coppice/draw"
	"coppice/grove"
	"coppice/vault"
	"coppice/view"
)

// Of trees that do not stand nothing is promised but that the calls end (R1); a pair beside
// false is none (R2).

// asked asks all of a cursor several times, whose tree may be anything; it tells whether
// an error was met.
func asked(t *testing.T, c *cursor.Cursor, rows ...[]byte) bool {
	t.Helper()
	met := false
	at := func() {
		if x, is := c.At(); !is && (x.Key != nil || x.Value != nil) {
			t.Fatalf("beside false: %s", told(x))
		}
		if c.Err() != 0 {
			met = true
		}
	}
	for _, row := range rows {
		for _, do := range []func() bool{c.Next, c.Next, c.Prev, c.First, c.Last, c.Prev, func() bool { return c.Seek(row) }, c.Next, c.Prev, c.Prev} {
			if is := do(); is && c.Err() != 0 {
				t.Fatalf("true beside error %d", c.Err())
			}
			at()
		}
	}
	return met
}

// Trees of any numbers, in a vault with a tree of its own.
func TestR1AnyTree(t *testing.T) {
	t.Parallel()
	r := draw.Numbers(571)
	odd := []int{lowest, -1 << 32, -12, -1, 0, 1, 2, 3, 4, 5, 9, 11, 12, 13, 255, 256, 1 << 16, 1<<32 + 1, greatest}
	for height := 1; height <= 3; height++ {
		g := grove.Any(&r, height)
		s, _ := grove.Setting{Refs: 3, More: 20, Lasting: 2}.Lay(&r, g)
		v := vaultOf(t, s)
		seen := view.Vault(v)
		c := cursor.New(v, g.Tree)
		for _, root := range append(odd, g.Tree.Root, v.Len(), v.Len()+1) {
			for _, height := range append(odd, g.Tree.Height) {
				for _, items := range []int{lowest, 0, 1, greatest} {
					x := tree(root, height, items)
					asked(t, cursor.New(v, x), g.SomeKey(&r))
					c.Move(x)
					asked(t, c, g.SomeKey(&r))
				}
			}
		}
		equal(t, "behind it", view.Vault(v), seen)
	}
}

// Pages that lead anywhere, in rings too.
func TestR1AnyPages(t *testing.T) {
	t.Parallel()
	r, errors := draw.Numbers(572), map[bool]int{}
	for range 4000 {
		n := 1 + r.Below(10)
		pages := make([]api.Page, n)
		for k := range pages {
			if r.Below(6) > 0 {
				pages[k] = grove.AnyPage(&r, n)
			}
		}
		s, _ := grove.Settings(&r).Lay(&r, &grove.Grown{Pages: pages})
		v := vaultOf(t, s)
		for root := 1; root <= n; root++ {
			c := cursor.New(v, tree(root, s.On[root-1].Level+1, 1+r.Below(40)))
			errors[asked(t, c, nil, []byte{byte(r.Below(140))}, []byte{byte(r.Below(140)), 0})]++
		}
	}
	equal(t, "some with errors, others without", errors[true] > 200 && errors[false] > 200, true)
}

// A tree that is sound, but for one page of it, at each place.
func TestR1OnePageIsAnother(t *testing.T) {
	t.Parallel()
	r, errors := draw.Numbers(573), map[bool]int{}
	for height := 1; height <= 3; height++ {
		g := grove.Any(&r, height)
		s := grove.StoreOf(3, g.Pages, 3)
		for k, p := range g.Pages {
			if p.Kind == 0 {
				continue
			}
			other := s.Copy()
			switch r.Below(3) {
			case 0:
				other.Counts[k] = 0
			case 1:
				if at := r.Below(len(g.Pages)); g.Pages[at].Kind != 0 {
					other.On[k] = other.Page(at + 1)
				}
			default:
				other.On[k] = grove.AnyPage(&r, len(g.Pages))
			}
			c := cursor.New(vaultOf(t, other), g.Tree)
			met := false
			for range 20 {
				met = asked(t, c, g.SomeKey(&r)) || met
				if met {
					c.Move(g.Tree)
				}
			}
			errors[met]++
		}
	}
	equal(t, "some with errors", errors[true] > 20, true)
}

// R5: the same calls on the same vault are answered alike each time, whatever else was
// asked of it.
func TestR5TheSame(t *testing.T) {
	t.Parallel()
	r := draw.Numbers(574)
	for round := range 20 {
		g := grove.Any(&r, 1+round%3)
		s, _ := grove.Settings(&r).Lay(&r, g)
		rows := g.Rows(&r, 4)
		text := func(v *vault.Vault) string {
			c, answers := cursor.New(v, g.Tree), ""
			for k, row := range rows {
				answers += fmt.Sprint(c.Seek(row))
				for range k % 4 {
					answers += fmt.Sprint(c.Prev(), c.Next(), c.Next())
				}
				x, is := c.At()
				answers += fmt.Sprint(told(x), is, int(c.Err()))
			}
			return answers
		}
		v := vaultOf(t, s)
		first := text(v)
		for range 3 {
			equal(t, "once more", text(v), first)
			equal(t, "in another vault", text(vaultOf(t, s)), first)
		}
	}
}
