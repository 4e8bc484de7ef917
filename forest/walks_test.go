package forest_test

import (
	"fmt"
	"iter"
	"testing"

	"coppice/api"
	"coppice/draw"
	"coppice/forest"
)

// walked is a forest with a tree of so many keys, some of them with long values.
func walked(t *testing.T, n int) *forest.Forest {
	t.Helper()
	_, f := formatted(t, api.Config{Blocks: 200, Clones: 4, Refs: 9})
	ok(t, f, call{name: "Plant"})
	for k := range n {
		ok(t, f, puts(1, fmt.Sprintf("k%03d", k), string(make([]byte, k%5*300))))
	}
	return f
}

func scanned(t *testing.T, f *forest.Forest, r api.Range) iter.Seq2[[]byte, []byte] {
	t.Helper()
	walk, e := f.Scan(1, r)
	equal(t, "Scan", e, 0)
	return walk
}

func listed(t *testing.T, f *forest.Forest, r api.Range) string {
	t.Helper()
	l, e := f.List(1, r)
	equal(t, "List", e, 0)
	return toldPairs(l)
}

// P24.4 and R6: a walk goes over what there was when it was asked for, whatever has become
// of the tree, each time anew.
func TestP24_4WalksGoneOverLate(t *testing.T) {
	some := api.Range{Lo: []byte("k003"), Hi: []byte("k017")}
	for name, turn := range map[string]func(f *forest.Forest){
		"nothing":         func(f *forest.Forest) {},
		"written":         func(f *forest.Forest) { f.Put(1, []byte("k004"), []byte("x")); f.Put(1, []byte("k0041"), nil) },
		"taken out":       func(f *forest.Forest) { f.Delete(1, []byte("k004")) },
		"emptied":         func(f *forest.Forest) { f.Trim(1, allKeys) },
		"swapped":         func(f *forest.Forest) { f.Plant(); f.Swap(1, 2) },
		"dropped":         func(f *forest.Forest) { f.Drop(1) },
		"dropped, filled": func(f *forest.Forest) { f.Drop(1); f.Plant(); fill(t, f, 2) },
		"dropped, committed, filled": func(f *forest.Forest) {
			f.Drop(1)
			f.Commit()
			f.Plant()
			f.Commit()
			fill(t, f, 2)
			f.Commit()
		},
	} {
		f := walked(t, 20)
		for _, r := range []api.Range{allKeys, some, {Lo: []byte("k0")}, {Open: true, Lo: []byte("l")}} {
			want, walk := listed(t, f, r), scanned(t, f, r)
			equal(t, "All", f.All(func() api.Errno { turn(f); return errStale }), errStale)
			equal(t, name+", undone", toldWalk(walk), want)
		}
		want, walk := listed(t, f, some), scanned(t, f, some)
		turn(f)
		for range 3 {
			equal(t, name, toldWalk(walk), want)
		}
	}
}

// P24.4 and R6: a walk that was asked for within an All that is undone.
func TestP24_4WalksOfWhatIsUndone(t *testing.T) {
	f := walked(t, 20)
	var walk iter.Seq2[[]byte, []byte]
	var want string
	equal(t, "All", f.All(func() api.Errno {
		f.Trim(1, api.Range{Lo: []byte("k005"), Open: true})
		f.Put(1, []byte("new"), make([]byte, 2000))
		want, walk = listed(t, f, allKeys), scanned(t, f, allKeys)
		return errStale
	}), errStale)
	equal(t, "the walk", toldWalk(walk), want)
	equal(t, "another walk", want == toldWalk(scanned(t, f, allKeys)), false)
	ok(t, f, call{name: "Plant"})
	fill(t, f, 2)
	equal(t, "the walk", toldWalk(walk), want)
}

// R6: walks left early, several at a time, within one another, and of a forest that is dead.
func TestP24_4WalksSeveralAtATime(t *testing.T) {
	d, f := formatted(t, api.Config{Blocks: 60, Clones: 4, Refs: 9})
	ok(t, f, call{name: "Plant"})
	for k := range 12 {
		ok(t, f, puts(1, fmt.Sprintf("k%03d", k), string(make([]byte, k%3*100))))
	}
	want, walk := listed(t, f, allKeys), scanned(t, f, allKeys)
	for n := range 13 {
		met := 0
		for range walk {
			if met == n {
				break
			}
			met++
		}
		equal(t, "pairs ahead of leaving", met, min(n, 12))
	}
	next, stop := iter.Pull2(walk)
	next()
	for range walk {
		next()
		equal(t, "within another one", toldWalk(walk), want)
	}
	_, _, more := next()
	equal(t, "is there more", more, false)
	stop()
	for range walk {
		ok(t, f, puts(1, "k0001", "x"))
		ok(t, f, call{name: "Delete", a: 1, key: []byte("k0001")})
	}
	equal(t, "behind it all", toldWalk(walk), want)
	equal(t, "the tree", listed(t, f, allKeys), want)
	kill(t, d, f)
	equal(t, "of a dead forest", toldWalk(walk), want)
	none, e := f.Scan(1, allKeys)
	equal(t, "Scan of a dead forest", e, errDown)
	equal(t, "the walk is nil", none == nil, true)
}

// R6: going over a walk changes nothing.
func TestP24_4AWalkChangesNothing(t *testing.T) {
	f := walked(t, 30)
	before := whole(f)
	walk := scanned(t, f, allKeys)
	for k, v := range walk {
		clear(k[:cap(k)])
		clear(v[:cap(v)])
	}
	equal(t, "all is as it was", whole(f), before)
	equal(t, "the walk too", toldWalk(walk), listed(t, f, allKeys))
}

// P24.4: Get, Scan and List of each key and range of a small tree, against a map.
func TestP24_4Reads(t *testing.T) {
	r := draw.Numbers(2461)
	_, f := formatted(t, api.Config{Blocks: 60, Clones: 4, Refs: 9})
	ok(t, f, call{name: "Plant"})
	m, keys := map[string]string{}, []string{}
	for a := range 4 {
		for b := range 4 {
			keys = append(keys, fmt.Sprintf("%d%d", a, b))
		}
	}
	for _, k := range keys {
		if r.Below(2) == 0 {
			m[k] = string(r.Bytes(r.Below(600)))
			ok(t, f, puts(1, k, m[k]))
		}
	}
	for _, lo := range append(keys, "", "3", "99") {
		v, has, e := f.Get(1, []byte(lo))
		if lo != "" {
			want, is := m[lo]
			equal(t, "Get", fmt.Sprint(string(v), has, int(e)), fmt.Sprint(want, is, 0))
		}
		for _, hi := range append(keys, "", "9") {
			for _, open := range []bool{false, true} {
				x := api.Range{Lo: []byte(lo), Hi: []byte(hi), Open: open}
				equal(t, "List", listed(t, f, x), toldMap(m, x))
				equal(t, "Scan", toldWalk(scanned(t, f, x)), toldMap(m, x))
			}
		}
	}
}
