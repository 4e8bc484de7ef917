package forest_test

import (
	"bytes"
	"fmt"
	"slices"
	"testing"

	"coppice/api"
	"coppice/forest"
)

// lent is a row of bytes that is handed in with spare room behind it.
type lent struct{ was, all []byte }

func lend(row []byte) (*lent, []byte) {
	all := slices.Concat(row, []byte("spare room, not to be touched"))
	return &lent{bytes.Clone(all), all}, all[:len(row)]
}

// back: it is as it was when it was handed in; then it is spoilt.
func (l *lent) back(t *testing.T, what string) {
	t.Helper()
	equal(t, what+" is as it was", string(l.all), string(l.was))
	for k := range l.all {
		l.all[k] ^= 0x55
	}
}

// lentTo hands a call its rows with spare room, and spoils them when it has answered.
func lentTo(t *testing.T, f called, c call) string {
	t.Helper()
	var l []*lent
	for _, row := range []*[]byte{&c.key, &c.value, &c.r.Lo, &c.r.Hi} {
		x, piece := lend(*row)
		l, *row = append(l, x), piece
	}
	got, _ := c.on(f)
	for _, x := range l {
		x.back(t, c.name)
	}
	return got
}

// R4: what is handed in is neither changed nor kept, its spare room included.
func TestR4WhatIsHandedIn(t *testing.T) {
	lentOnce, f := formatted(t, api.Config{Blocks: 60, Clones: 9, Refs: 9})
	_, g := formatted(t, api.Config{Blocks: 60, Clones: 9, Refs: 9})
	calls := []call{{name: "Plant"}}
	for k := range 20 {
		calls = append(calls, puts(1, fmt.Sprintf("k%02d", k), string(bytes.Repeat([]byte{'v'}, k*k*5))))
	}
	some := api.Range{Lo: []byte("k03"), Hi: []byte("k09")}
	calls = append(calls, call{name: "Clone", a: 1}, puts(2, "k03", "x"), call{name: "Commit"}, puts(2, "k04", "y"), call{name: "Delete", a: 1, key: []byte("k05")})
	for _, name := range []string{"Get", "Scan", "List", "Diff", "Merge"} {
		calls = append(calls, call{name: name, a: 1, b: 2, c: 1, key: []byte("k03"), r: some})
	}
	calls = append(calls, call{name: "Trim", a: 1, r: some}, puts(1, "", "x"), puts(1, "a", string(make([]byte, maxValue+1))))
	for _, c := range calls {
		want, _ := c.on(g)
		equal(t, c.name, lentTo(t, f, c), want)
		equal(t, "what there is behind "+c.name, whole(f), whole(g))
	}
	ok(t, f, call{name: "Commit"})
	equal(t, "what is opened", familyOf(t, opened(t, lentOnce)).told(), familyOf(t, g).told())
}

// R4 and R6: a walk goes over the range that was asked for, whatever becomes of the rows
// that told it.
func TestR4ARangeHandedIn(t *testing.T) {
	f := walked(t, 20)
	lo, hi := []byte("k003"), []byte("k009")
	want := listed(t, f, api.Range{Lo: lo, Hi: hi})
	walk := scanned(t, f, api.Range{Lo: lo, Hi: hi})
	clear(lo)
	clear(hi)
	equal(t, "the walk", toldWalk(walk), want)
}

// spoil writes over rows of bytes, their spare room included.
func spoil(rows ...[]byte) {
	for _, row := range rows {
		row = row[:cap(row)]
		for k := range row {
			row[k] ^= 0x55
		}
	}
}

// spoilAll writes over lists, and over their spare room.
func spoilAll[T any](l []T, with T) {
	l = l[:cap(l)]
	for k := range l {
		l[k] = with
	}
}

// R4: what is told is new memory each time: whatever is done to it, the forest is as it was,
// and so is what was told ahead of it and is told behind it.
func TestR4WhatIsTold(t *testing.T) {
	f := walked(t, 12)
	ok(t, f, call{name: "Clone", a: 1})
	ok(t, f, call{name: "Clone", a: 1})
	ok(t, f, puts(2, "k001", "two"))
	ok(t, f, puts(3, "k001", string(make([]byte, 700))))
	ok(t, f, call{name: "Delete", a: 3, key: []byte("k005")})
	ok(t, f, puts(2, "k005", "five"))
	for name, spoil := range spoilers() {
		before, text := whole(f), spoil(t, f, false)
		equal(t, name+" tells the same again", spoil(t, f, true), text)
		equal(t, name+" tells the same again", spoil(t, f, true), text)
		equal(t, "all is as it was behind "+name, whole(f), before)
	}
}

// spoilers is, for each call that tells lists, what tells its answer as a text and, if it
// shall, writes over the answer then.
func spoilers() map[string]func(t *testing.T, f *forest.Forest, shall bool) string {
	return map[string]func(t *testing.T, f *forest.Forest, shall bool) string{
		"Get": func(t *testing.T, f *forest.Forest, shall bool) string {
			v, _, _ := f.Get(3, []byte("k001"))
			text := string(v)
			if shall {
				spoil(v)
			}
			return text
		},
		"List": func(t *testing.T, f *forest.Forest, shall bool) string {
			l, _ := f.List(3, allKeys)
			text := toldPairs(l)
			if shall {
				for k := range l {
					spoil(l[k].Key, l[k].Value)
					equal(t, "the others", toldPairs(l[k+1:]), text[len(text)-len(toldPairs(l[k+1:])):])
				}
				spoilAll(l, api.Pair{Key: []byte("x")})
			}
			return text
		},
		"Roots": func(t *testing.T, f *forest.Forest, shall bool) string {
			l := f.Roots()
			text := fmt.Sprint(l)
			if shall {
				spoilAll(l, api.Root{Id: 77})
			}
			return text
		},
		"Super": func(t *testing.T, f *forest.Forest, shall bool) string {
			s := f.Super()
			text := told(s)
			if shall {
				spoilAll(s.Roots, api.Root{Id: 77})
			}
			return text
		},
		"Counts": func(t *testing.T, f *forest.Forest, shall bool) string {
			l := f.Counts()
			text := fmt.Sprint(l)
			if shall {
				spoilAll(l, 77)
			}
			return text
		},
		"Reach": func(t *testing.T, f *forest.Forest, shall bool) string {
			l, _ := f.Reach(3)
			text := fmt.Sprint(l)
			if shall {
				spoilAll(l, 77)
			}
			return text
		},
		"Check": func(t *testing.T, f *forest.Forest, shall bool) string {
			x, _ := f.Check()
			text := fmt.Sprint(x)
			if shall {
				spoilAll(x.Bad, 77)
			}
			return text
		},
		"Diff": func(t *testing.T, f *forest.Forest, shall bool) string {
			l, _ := f.Diff(2, 3, allKeys)
			text := toldChanges(l)
			if shall {
				for k := range l {
					spoil(l[k].Key, l[k].Old, l[k].New)
					rest := toldChanges(l[k+1:])
					equal(t, "the others", rest, text[len(text)-len(rest):])
				}
				spoilAll(l, api.Change{Kind: 77})
			}
			return text
		},
		"Merge": func(t *testing.T, f *forest.Forest, shall bool) string {
			l, e := f.Merge(1, 2, 3, mergeFail)
			equal(t, "Merge", fmt.Sprint(len(l), int(e)), "2 26")
			text := toldConflicts(l)
			if shall {
				for k := range l {
					spoil(l[k].Key, l[k].Base, l[k].Ours, l[k].Theirs)
					rest := toldConflicts(l[k+1:])
					equal(t, "the others", rest, text[len(text)-len(rest):])
				}
				spoilAll(l, api.Conflict{Key: []byte("x")})
			}
			return text
		},
	}
}

// R3: nil and an empty list are the same: as keys, as values, in ranges.
func TestR3NilAndEmpty(t *testing.T) {
	f, g := walked(t, 12), walked(t, 12)
	none, empty := []byte(nil), []byte{}
	for _, r := range []api.Range{{}, {Open: true}, {Lo: []byte("k004"), Open: true}, {Hi: []byte("k004")}} {
		full := api.Range{Lo: append(empty, r.Lo...), Hi: append(empty, r.Hi...), Open: r.Open}
		if r.Lo == nil && full.Lo == nil || r.Hi == nil && full.Hi == nil {
			t.Fatal("an empty list was wanted")
		}
		for _, name := range []string{"List", "Scan", "Diff", "Trim"} {
			want, _ := call{name: name, a: 1, b: 1, r: r}.on(f)
			got, _ := call{name: name, a: 1, b: 1, r: full}.on(g)
			equal(t, name, got, want)
		}
	}
	row(t, f, call{name: "Put", a: 1, key: []byte("a"), value: none}, "false error 0")
	row(t, g, call{name: "Put", a: 1, key: []byte("a"), value: empty}, "false error 0")
	for _, key := range [][]byte{none, empty} {
		for _, name := range []string{"Put", "Get", "Delete"} {
			row(t, f, call{name: name, a: 1, key: key}, "false error 7")
		}
	}
	equal(t, "what there is", whole(f), whole(g))
}
