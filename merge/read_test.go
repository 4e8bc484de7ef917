package merge_test

import (
	"fmt"
	"slices"
	"testing"

	"coppice/api"
	"coppice/draw"
	"coppice/fork"
	"coppice/grove"
	"coppice/merge"
	"coppice/put"
	"coppice/walk"
)

// shares is three trees that share many pages; may values be taken away that all share?
// (Trees made by hand share values under unlike keys; these are told, and so read.)
func shares(t *testing.T, r *draw.Numbers, round int) (trio, bool) {
	t.Helper()
	if round%3 == 0 {
		return relatives(t, r, 1+round%4), false
	}
	return siblings(t, r, 1+round%4, r.Below(10)), true
}

// P21.5: pages that all three share are not read: they may lack, and all conflicts are told
// as if they were there; so is a Merge that has nothing to do.
func TestP21_5SharedPagesMayLack(t *testing.T) {
	t.Parallel()
	r, met := draw.Numbers(751), met{}
	for round := range 240 {
		c, values := shares(t, &r, round)
		shared, want, rows := c.shared(), c.tells(t), c.rows(t)
		s := grove.StoreFrom(c.v)
		for _, n := range shared {
			if values || s.On[n-1].Kind != blobKind {
				s.Counts[n-1] = 0
			}
		}
		c = c.among(t, s)
		l, e := merge.Conflicts(c.v, c.base, c.ours, c.theirs)
		equal(t, "Conflicts", e, 0)
		equalConflicts(t, "Conflicts", l, want)
		met[fmt.Sprint("conflicts: ", len(shared) > 0, len(want) > 0)]++
		for _, rule := range rules() {
			came := modelOfFaults(want, rule)
			if came.e == 0 && len(taken(rows, rule)) > 0 {
				continue
			}
			came.then, came.tree = s, c.ours
			if came.e != 0 {
				came.tree = empty
			}
			unchanged(t, c.v, func() { c.answers(t, rule, came) })
			met[fmt.Sprintf("rule %d, error %d", rule, came.e)]++
		}
	}
	met.wants(t, 20, "conflicts: true true", "conflicts: true false", "rule 0, error 0", "rule 0, error 26", "rule 1, error 0", "rule 2, error 0")
}

// modelOfFaults is what a Merge answers that has nothing to do.
func modelOfFaults(conflicts []api.Conflict, rule int) came {
	c := came{conflicts: conflicts}
	if rule == mergeFail && len(conflicts) > 0 {
		c.e = errMerge
	}
	return c
}

// P21.5: a Merge reads of the pages that all three share but those that its puts and cuts
// read: where something else stands on some of these pages, or on all, it is done, or fails,
// as the puts and cuts are done, or fail, there.
func TestP21_5SharedPagesMayBeOthers(t *testing.T) {
	t.Parallel()
	r, met := draw.Numbers(752), met{}
	for round := range 300 {
		c, values := shares(t, &r, round)
		rows, s, few := c.rows(t), grove.StoreFrom(c.v), 2+r.Below(9)
		near := map[int]int{}
		for _, x := range taken(rows, byTheirs) {
			for _, n := range c.near(t, x.key) {
				near[n]++
			}
		}
		others := 0
		for _, n := range c.shared() {
			if (near[n] == 0 || r.Below(few) == 0) && (values || s.On[n-1].Kind != blobKind) {
				s.On[n-1] = api.Page{Kind: blobKind, Data: []byte("another page")}
				others++
			}
		}
		c = c.among(t, s)
		mark := c.v.Mark()
		for _, rule := range rules() {
			want := modelMerge(t, s, c.ours, rows, rule)
			c.answers(t, rule, want)
			c.v.Undo(mark)
			met[fmt.Sprintf("rule %d, error %d, some done: %t, other pages: %t", rule, want.e, want.done > 0, others > 0)]++
		}
	}
	met.wants(t, 10, "rule 0, error 0, some done: true, other pages: true", "rule 1, error 0, some done: true, other pages: true",
		"rule 2, error 0, some done: true, other pages: true")
	met.wants(t, 4, "rule 2, error 15, some done: true, other pages: true")
}

// near is the pages of ours that a put or a cut at a key reads: those on the way, their
// neighbours, and those of the value.
func (c trio) near(t *testing.T, key string) []int {
	t.Helper()
	way, e := walk.Path(c.v, c.ours, []byte(key))
	equal(t, "Path", e, 0)
	l := slices.Clone(way)
	for _, n := range way {
		p, e := c.v.Read(n)
		equal(t, "Read", e, 0)
		at := grove.Lies(p, []byte(key))
		for k, i := range p.Items {
			if p.Kind == leafKind && string(i.Key) == key || p.Kind == indexKind && k >= at-1 && k <= at+1 {
				l = append(l, c.beneathValue(t, p.Kind, i.Child)...)
			}
		}
	}
	return l
}

// beneathValue is a page, and, if a leaf leads to it, those behind it.
func (c trio) beneathValue(t *testing.T, kind, n int) []int {
	t.Helper()
	var l []int
	for n != 0 {
		l = append(l, n)
		p, e := c.v.Read(n)
		equal(t, "Read", e, 0)
		n = 0
		if kind == leafKind {
			n = p.Next
		}
	}
	return l
}

// P21.5: three trees of many keys that differ in few: all but few pages may lack.
func TestP21_5FewDiffer(t *testing.T) {
	t.Parallel()
	r := draw.Numbers(753)
	for round := range 12 {
		g := grove.Grow(&r, grove.Pairs(&r, 2000, 50000), grove.Some(&r))
		s, trees := grove.Setting{Refs: 9, More: 200, Lasting: round % 5}.Lay(&r, g)
		v := vaultOf(t, s)
		l := []api.Tree{trees[0]}
		key, at := g.Pairs[r.Below(2000)].Key, r.Below(2000)
		for _, text := range []string{"of ours", "of theirs"} {
			x, e := fork.Clone(v, trees[0])
			equal(t, "Clone", e, 0)
			for _, key := range [][]byte{key, g.Pairs[(at+len(text))%2000].Key} {
				x, _, e = put.Put(v, x, key, []byte(text))
				equal(t, "Put", e, 0)
			}
			l = append(l, x)
		}
		c := trioOf(v, l[0], l[1], l[2], g)
		want, shared := c.tells(t), c.shared()
		equal(t, "many pages are shared", len(shared) > 300, true)
		less := grove.StoreFrom(v)
		for _, n := range shared {
			less.Counts[n-1] = 0
		}
		got, e := merge.Conflicts(vaultOf(t, less), l[0], l[1], l[2])
		equal(t, "Conflicts", e, 0)
		equalConflicts(t, "Conflicts", got, want)
		equal(t, "how many", len(got) > 0, true)
	}
}
