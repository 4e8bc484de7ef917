package vault_test

import (
	"fmt"
	"slices"
	"testing"

	"coppice/api"
	"coppice/draw"
	"coppice/vault"
)

// garden is a vault whose counts are all right, and the places elsewhere that lead
// to its pages: each page there as often as it is led to from outside.
type garden struct {
	*vault.Vault
	places []int
	met    map[string]int
}

// right: is each count how many items, Nexts and places elsewhere lead there?
func (g *garden) right(t *testing.T, what string) {
	t.Helper()
	want := make([]int, g.Len())
	for _, n := range g.places {
		want[n-1]++
	}
	for _, state := range []int{fresh, held} {
		for _, p := range g.Pages(state) {
			for _, n := range leadsTo(p) {
				want[n-1]++
			}
		}
	}
	equalLists(t, what, g.Counts(), want)
	equal(t, "the tallies together", g.Tally(free)+g.Tally(pending)+g.Tally(fresh)+g.Tally(held), g.Len())
}

// some is a place from outside, by its number in the list of them; false: none.
func (g *garden) some(r *draw.Numbers) (int, bool) {
	if len(g.places) == 0 {
		return 0, false
	}
	return r.Below(len(g.places)), true
}

// plant makes a page that leads to some pages to which places led, in their stead.
func (g *garden) plant(r *draw.Numbers) api.Errno {
	few := min(len(g.places), r.Below(5))
	kids := g.places[len(g.places)-few:]
	p := L("a")
	switch {
	case few == 1:
		p = B(kids[0])
	case few > 1 && r.Below(2) == 0:
		p = V(kids...)
	case few > 1:
		p = N(kids...)
	}
	n, e := g.Make(p)
	if e == 0 {
		g.places = append(slices.Clone(g.places[:len(g.places)-few]), n)
	}
	return e
}

func (g *garden) keep(r *draw.Numbers) api.Errno {
	i, is := g.some(r)
	if !is {
		return errPage
	}
	e := g.Keep(g.places[i])
	if e == 0 {
		g.places = append(g.places, g.places[i])
	}
	return e
}

// reach is a page that is reached from a place, and keeps it by a place of its own.
func (g *garden) reach(r *draw.Numbers) api.Errno {
	i, is := g.some(r)
	if !is {
		return errPage
	}
	p, _ := g.Read(g.places[i])
	kids := leadsTo(p)
	if len(kids) == 0 {
		return errPage
	}
	n := kids[r.Below(len(kids))]
	e := g.Keep(n)
	if e == 0 {
		g.places = append(g.places, n)
	}
	return e
}

func (g *garden) drop(r *draw.Numbers) api.Errno {
	i, is := g.some(r)
	if !is {
		return errPage
	}
	e := g.Drop(g.places[i])
	if e == 0 {
		g.places = slices.Delete(slices.Clone(g.places), i, i+1)
	}
	return e
}

// shadow brings a place over to the shadow of its page; and then, page by page down
// from there, an item or Next to the shadow of what it leads to.
func (g *garden) shadow(r *draw.Numbers) api.Errno {
	i, is := g.some(r)
	if !is {
		return errPage
	}
	n, e := g.Shadow(g.places[i])
	if e != 0 {
		return e
	}
	g.places[i] = n
	for {
		p, _ := g.Read(n)
		kids := leadsTo(p)
		if len(kids) == 0 || r.Below(3) == 0 {
			return 0
		}
		old := kids[r.Below(len(kids))]
		next, e := g.Shadow(old)
		if e != 0 {
			return e
		}
		if e := g.Write(n, ledOver(p, old, next)); e != 0 {
			return e
		}
		n = next
	}
}

// ledOver is the page with one item, or its Next, that leads to another page.
func ledOver(p api.Page, from, to int) api.Page {
	if p.Next == from {
		p.Next = to
		return p
	}
	for i := range p.Items {
		if p.Items[i].Child == from {
			p.Items[i].Child = to
			return p
		}
	}
	panic("it does not lead there")
}

// take brings what stands on a place's page over to a page that is made behind it,
// or to one that was made ahead of it and is written behind it.
func (g *garden) take(r *draw.Numbers) api.Errno {
	i, is := g.some(r)
	if !is {
		return errPage
	}
	mark, n, ahead := g.Mark(), 0, r.Below(2) == 0
	if ahead {
		var e api.Errno
		if n, e = g.Make(L("to be written over")); e != 0 {
			return e
		}
	}
	p, e := g.Take(g.places[i])
	if e == 0 && ahead {
		e = g.Write(n, p)
	} else if e == 0 {
		n, e = g.Make(p)
	}
	if e != 0 {
		g.Undo(mark)
		return e
	}
	g.places[i] = n
	return 0
}

// step does one of these.
func (g *garden) step(t *testing.T, r *draw.Numbers) {
	t.Helper()
	ways := []struct {
		name string
		do   func(*draw.Numbers) api.Errno
	}{{"plant", g.plant}, {"plant", g.plant}, {"keep", g.keep}, {"reach", g.reach}, {"drop", g.drop}, {"shadow", g.shadow}, {"shadow", g.shadow}, {"take", g.take}, {"take", g.take}}
	way := ways[r.Below(len(ways))]
	before, places := look(g.Vault), slices.Clone(g.places)
	e := way.do(r)
	g.met[fmt.Sprintf("%s %d", way.name, e)]++
	if e != 0 && way.name != "shadow" { // of which some may have been done
		equal(t, "behind an error", look(g.Vault), before)
		equalLists(t, "places", g.places, places)
	}
	g.right(t, way.name)
}

// P11.13: whatever is made, shadowed, taken, kept and dropped, undone and settled,
// each count is how many places lead there.
func TestP11_13TheCountsStayRight(t *testing.T) {
	r := draw.Numbers(11130)
	met := map[string]int{}
	for range 250 {
		g := &garden{newVault(t, 4+r.Below(10), 2+r.Below(3)), nil, met}
		for range 30 {
			g.step(t, &r)
			switch r.Below(12) {
			case 0:
				g.Settle()
				g.right(t, "Settle")
			case 1:
				mark, places := g.Mark(), slices.Clone(g.places)
				for range 1 + r.Below(6) {
					g.step(t, &r)
				}
				equal(t, "Undo", g.Undo(mark), true)
				g.places = places
				g.right(t, "Undo")
			}
		}
		for len(g.places) > 0 {
			equal(t, "Drop", g.drop(&r), 0)
			g.right(t, "Drop")
		}
		equal(t, "pages with a count", g.Tally(fresh)+g.Tally(held), 0)
		g.Settle()
		equal(t, "Free pages", g.Tally(free), g.Len())
	}
	for _, want := range []string{"plant 0", "plant 12", "keep 0", "keep 13", "reach 0", "drop 0", "shadow 0", "shadow 12", "shadow 13", "take 0", "take 12", "take 13"} {
		if met[want] < 20 {
			t.Errorf("%s was met %d times", want, met[want])
		}
	}
}
