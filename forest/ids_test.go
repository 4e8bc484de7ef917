package forest_test

import (
	"fmt"
	"testing"

	"coppice/api"
	"coppice/draw"
	"coppice/forest"
)

// ok asks a call, which must be answered OK.
func ok(t *testing.T, f *forest.Forest, c call) {
	t.Helper()
	got, e := c.on(f)
	equal(t, c.name+": "+got, e, 0)
}

// P24.2: ids are given from 1 on, each new tree the next one, whatever was dropped, however
// often the forest was committed and opened meanwhile.
func TestP24_2IdsAreNeverGivenAgain(t *testing.T) {
	r := draw.Numbers(2441)
	d, f := formatted(t, api.Config{Blocks: 40, Clones: 3, Refs: 9})
	next := 1
	for range 300 {
		equal(t, "Next", f.Super().Next, next)
		l := f.Roots()
		switch n := r.Below(8); {
		case n == 0:
			ok(t, f, call{name: "Commit"})
			f = opened(t, d)
		case len(l) == 3 || len(l) > 0 && n < 4:
			ok(t, f, call{name: "Drop", a: l[r.Below(len(l))].Id})
		case len(l) > 0 && n < 6:
			row(t, f, call{name: "Clone", a: l[r.Below(len(l))].Id}, fmt.Sprint(next, " error 0"))
			next++
		default:
			row(t, f, call{name: "Plant"}, fmt.Sprint(next, " error 0"))
			next++
		}
		has := map[int]int{}
		for _, x := range f.Roots() {
			has[x.Id]++
		}
		for id := range next + 3 {
			_, e := f.List(id, allKeys)
			equal(t, fmt.Sprint("is there a tree ", id), e == 0, has[id] == 1)
		}
	}
	equal(t, "many were given", next > 100, true)
}

// P24.2: of what was not committed nothing is there behind Open; the ids are given anew.
func TestP24_2IdsBehindOpen(t *testing.T) {
	d, f := formatted(t, exampleConfig)
	row(t, f, call{name: "Plant"}, "1 error 0")
	ok(t, f, call{name: "Commit"})
	row(t, f, call{name: "Plant"}, "2 error 0")
	f = opened(t, d)
	equal(t, "Next", f.Super().Next, 2)
	ok(t, f, call{name: "Drop", a: 1})
	row(t, f, call{name: "Plant"}, "2 error 0")
	ok(t, f, call{name: "Drop", a: 2})
	ok(t, f, call{name: "Commit"})
	f = opened(t, d)
	row(t, f, call{name: "Plant"}, "3 error 0")
}

// P24.2 and P24.6: an id of a tree that was made in an All that is undone, is the next one
// still.
func TestP24_6IdsOfWhatIsUndone(t *testing.T) {
	_, f := formatted(t, api.Config{Blocks: 8, Clones: 3, Refs: 9})
	row(t, f, call{name: "Plant"}, "1 error 0")
	do := []call{{name: "Plant"}, {name: "Clone", a: 1}, {name: "Drop", a: 1}, {name: "Plant"}}
	for range 3 {
		row(t, f, call{name: "All", do: do, ends: errEnd}, "(Plant 2 error 0; Clone 3 error 0; Drop error 0; Plant 4 error 0; ) error 21")
		equal(t, "Next", f.Super().Next, 2)
		equalLists(t, "Roots", f.Roots(), []api.Root{{Id: 1}})
	}
	row(t, f, call{name: "All", do: do}, "(Plant 2 error 0; Clone 3 error 0; Drop error 0; Plant 4 error 0; ) error 0")
	row(t, f, call{name: "Drop", a: 4}, "error 0")
	row(t, f, call{name: "Plant"}, "5 error 0")
	row(t, f, call{name: "Drop", a: 4}, "error 9")
}

// P24.2: the greatest id is given; none behind it, also when all trees were dropped.
func TestP24_2GreatestId(t *testing.T) {
	for _, name := range []string{"Plant", "Clone"} {
		d := faulty(t, nil)
		lay(t, d, opened(t, d).Super(), func(s *api.Super) { s.Next = maxId - 1 })
		f := opened(t, d)
		ok(t, f, call{name: "Drop", a: 2})
		row(t, f, call{name: name, a: 1}, fmt.Sprint(maxId-1, " error 0"))
		row(t, f, call{name: name, a: 1}, fmt.Sprint(maxId, " error 0"))
		ok(t, f, call{name: "Drop", a: 3})
		equal(t, "Next", f.Super().Next, maxId+1)
		for range 2 {
			row(t, f, call{name: name, a: 1}, "0 error 4")
			row(t, f, call{name: "Plant"}, "0 error 4")
			ok(t, f, call{name: "Commit"})
			f = opened(t, d)
		}
		equal(t, "the last of them", f.Roots()[len(f.Roots())-1].Id, maxId)
		for _, x := range f.Roots() {
			ok(t, f, call{name: "Drop", a: x.Id})
		}
		row(t, f, call{name: "Plant"}, "0 error 4")
		ok(t, f, call{name: "Commit"})
		row(t, opened(t, d), call{name: "Plant"}, "0 error 4")
	}
}

// P24.2: as many trees as Config.Clones, for each number that may be.
func TestP24_2Clones(t *testing.T) {
	for n := 1; n <= api.MaxClones; n++ {
		_, f := formatted(t, api.Config{Blocks: 40, Clones: n, Refs: 16})
		for k := range n {
			c := call{name: "Clone", a: 1}
			if k == 0 || k%3 == 2 {
				c.name = "Plant"
			}
			row(t, f, c, fmt.Sprint(k+1, " error 0"))
			row(t, f, puts(1, "a", "1"), fmt.Sprint(k > 0, " error 0"))
		}
		row(t, f, call{name: "Plant"}, "0 error 14")
		row(t, f, call{name: "Clone", a: 1}, "0 error 14")
		ok(t, f, call{name: "Drop", a: n})
		row(t, f, call{name: "Plant"}, fmt.Sprint(n+1, " error 0"))
	}
}

// P24.2: a count as great as Config.Refs is right; none is above it.
func TestP24_2Refs(t *testing.T) {
	for _, n := range []int{2, 3, 15} {
		_, f := formatted(t, api.Config{Blocks: 20, Clones: 16, Refs: n})
		ok(t, f, call{name: "Plant"})
		ok(t, f, puts(1, "a", "1"))
		for k := 1; k < n; k++ {
			row(t, f, call{name: "Clone", a: 1}, fmt.Sprint(k+1, " error 0"))
		}
		equal(t, "the count", f.Counts()[0], n)
		row(t, f, call{name: "Clone", a: n}, "0 error 13")
		ok(t, f, puts(1, "a", "2"))
		row(t, f, call{name: "Clone", a: n}, fmt.Sprint(n+1, " error 0"))
	}
	_, f := formatted(t, api.Config{Blocks: 20, Clones: 16, Refs: 2})
	ok(t, f, call{name: "Plant"})
	for k := range 15 { // the empty tree has no count
		row(t, f, call{name: "Clone", a: 1}, fmt.Sprint(k+2, " error 0"))
	}
}

// P24.5: each has the other one's tree; one and the same id has what it had.
func TestP24_5Swap(t *testing.T) {
	d, f := formatted(t, api.Config{Blocks: 40, Clones: 4, Refs: 9})
	for id := 1; id <= 4; id++ {
		ok(t, f, call{name: "Plant"})
		for k := range id - 1 {
			ok(t, f, puts(id, fmt.Sprint("k", id, k), "v"))
		}
	}
	trees := func() (l []api.Tree) {
		for k, x := range f.Roots() {
			equal(t, "the id", x.Id, k+1)
			l = append(l, x.Tree)
		}
		return l
	}
	for a := 1; a <= 4; a++ {
		for b := 1; b <= 4; b++ {
			want, m, counts := trees(), familyOf(t, f), f.Counts()
			want[a-1], want[b-1] = want[b-1], want[a-1]
			m[a], m[b] = m[b], m[a]
			ok(t, f, call{name: "Swap", a: a, b: b})
			equalLists(t, "the trees", trees(), want)
			equal(t, "the family", familyOf(t, f).told(), m.told())
			equalLists(t, "Counts", f.Counts(), counts)
		}
	}
	ok(t, f, call{name: "Swap", a: 1, b: 3})
	before := whole(f)
	ok(t, f, call{name: "Commit"})
	equal(t, "what is opened", familyOf(t, opened(t, d)).told(), familyOf(t, f).told())
	for _, id := range wrongIds() {
		row(t, f, call{name: "Swap", a: id, b: id}, "error 9")
	}
	equal(t, "it has turned", before == whole(f), false) // of the generation, and of what lasts
}
