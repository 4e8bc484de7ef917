package forest_test

import (
	"testing"

	"coppice/api"
	"coppice/disk"
	"coppice/forest"
)

// row asks a call of a forest, and holds what it answers against a text.
func row(t *testing.T, f *forest.Forest, c call, want string) {
	t.Helper()
	got, _ := c.on(f)
	equal(t, c.name, got, want)
}

func puts(id int, key, value string) call {
	return call{name: "Put", a: id, key: []byte(key), value: []byte(value)}
}

func gets(id int, key string) call { return call{name: "Get", a: id, key: []byte(key)} }

var exampleConfig = api.Config{Blocks: 8, Clones: 2, Refs: 9}

// The first rows of the chapter's examples: up to the commit.
func firstRows(t *testing.T) (*disk.Disk, *forest.Forest) {
	t.Helper()
	d := newDisk(t, 8)
	f, e := forest.Format(d, api.Config{Blocks: 9, Clones: 2, Refs: 9})
	equal(t, "Format of another disk's config", e, errArg)
	equal(t, "no forest", f == nil, true)
	f, e = forest.Format(d, exampleConfig)
	equal(t, "Format", e, 0)
	equal(t, "Roots", len(f.Roots()), 0)
	equal(t, "Super", told(f.Super()), told(api.Super{Gen: 1, Config: exampleConfig, Next: 1}))

	row(t, f, puts(1, "a", "1"), "false error 9")
	row(t, f, call{name: "Plant"}, "1 error 0")
	row(t, f, puts(1, "a", "1"), "false error 0")
	row(t, f, puts(1, "", "1"), "false error 7")

	row(t, f, call{name: "Clone", a: 1}, "2 error 0")
	row(t, f, call{name: "Plant"}, "0 error 14")
	row(t, f, call{name: "Clone", a: 7}, "0 error 9")
	row(t, f, puts(2, "b", "2"), "false error 0")
	row(t, f, gets(1, "b"), "false error 0")

	equal(t, "free", f.Tally(free), 2)
	row(t, f, call{name: "Commit"}, "error 0")
	equal(t, "held", f.Tally(held), 2)
	row(t, f, call{name: "Drop", a: 1}, "error 0")
	equal(t, "pending", f.Tally(pending), 1)
	equal(t, "free", f.Tally(free), 2)
	return d, f
}

// The chapter's examples, row by row.
func TestRows(t *testing.T) {
	d, f := firstRows(t)
	row(t, f, call{name: "Swap", a: 1, b: 2}, "error 9")
	row(t, f, call{name: "Plant"}, "3 error 0")
	row(t, f, call{name: "Swap", a: 2, b: 3}, "error 0")
	roots := []api.Root{{Id: 2}, {Id: 3, Tree: tree(2, 1, 2)}}
	equalLists(t, "Roots", f.Roots(), roots)

	before := whole(f)
	undone := []call{puts(2, "x", "y"), {name: "Drop", a: 3}}
	row(t, f, call{name: "All", do: undone, ends: errStale}, "(Put false error 0; Drop error 0; ) error 20")
	equal(t, "all as before", whole(f), before)
	e := f.All(func() api.Errno { return f.Commit() })
	equal(t, "All of a Commit", e, errArg)
	equal(t, "all as before", whole(f), before)

	d.Off()
	row(t, f, gets(3, "b"), "32 true error 0")
	row(t, f, call{name: "Commit"}, "error 17")
	row(t, f, gets(3, "b"), "false error 17")
	equal(t, "Dead", f.Dead(), true)
	equal(t, "held", f.Tally(held), 1)

	d.On(nil)
	f, e = forest.Open(d)
	equal(t, "Open", e, 0)
	equalLists(t, "Roots", f.Roots(), []api.Root{{Id: 1, Tree: tree(1, 1, 1)}, {Id: 2, Tree: tree(2, 1, 2)}})
	equal(t, "Super().Gen", f.Super().Gen, 2)
}
