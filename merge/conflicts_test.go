package merge_test

import (
	"fmt"
	"testing"

	"coppice/api"
	"coppice/draw"
	"coppice/fork"
	"coppice/merge"
)

// trioOfWords is three trees of words, built one behind the other.
func trioOfWords(t *testing.T, base, ours, theirs string) trio {
	t.Helper()
	v := newVault(t, 60, 9)
	return trioOf(v, built(t, v, words(base)), built(t, v, words(ours)), built(t, v, words(theirs)), nil)
}

// conflict is a conflict of words; "-" is nothing.
func conflict(key, base, ours, theirs string) api.Conflict {
	c := api.Conflict{Key: []byte(key)}
	for k, w := range []string{base, ours, theirs} {
		if w != "-" {
			*[]*[]byte{&c.Base, &c.Ours, &c.Theirs}[k], c.Has[k] = []byte(w), true
		}
	}
	return c
}

// The chapter's table, row by row, with each rule, and with rules that are none.
func TestExamples(t *testing.T) {
	const base = "a1 b1 c1 d1"
	for _, c := range []struct {
		ours, theirs         string
		want                 []api.Conflict
		withOurs, withTheirs string
	}{
		{"a2 b1 c1 d1", "a1 b1 c2 d1", nil, "a2 b1 c2 d1", "a2 b1 c2 d1"},
		{"a2 b1 c1 d1", "a3 b1 c1 d1", []api.Conflict{conflict("a", "1", "2", "3")}, "a2 b1 c1 d1", "a3 b1 c1 d1"},
		{"b1 c1 d1", "a2 b1 c1", []api.Conflict{conflict("a", "1", "-", "2")}, "b1 c1", "a2 b1 c1"},
		{"a1 b1 c1 d1 e5", "a1 b1 c1 d1 e6", []api.Conflict{conflict("e", "-", "5", "6")}, "a1 b1 c1 d1 e5", "a1 b1 c1 d1 e6"},
		{"b1 c1 d1", "b1 c1 d1", nil, "b1 c1 d1", "b1 c1 d1"},
		{"a2 b1 c1 d1", "a2 b1 c1 d1", nil, "a2 b1 c1 d1", "a2 b1 c1 d1"},
	} {
		x := trioOfWords(t, base, c.ours, c.theirs)
		equalConflicts(t, "Conflicts", x.tells(t), c.want)
		mark := x.v.Mark()
		for _, rule := range rules() {
			came := x.merges(t, rule)
			if rule == mergeFail && len(c.want) > 0 {
				equal(t, "MergeFail", fmt.Sprint(came.tree, came.e), fmt.Sprint(empty, api.Errno(errMerge)))
				continue
			}
			want := words(c.withOurs)
			if rule == byTheirs {
				want = words(c.withTheirs)
			}
			equal(t, fmt.Sprint("by the rule ", rule), toldPairs(pairs(t, x.v, came.tree)), toldPairs(want))
			equalConflicts(t, "the conflicts beside it", came.conflicts, c.want)
			x.v.Undo(mark)
		}
		for _, rule := range []int{3, -1} {
			unchanged(t, x.v, func() { x.answers(t, rule, x.merges(t, rule)) })
		}
	}
}

// What comes of one key, in all ways in which three trees can have it.
func TestP21_1Words(t *testing.T) {
	for _, c := range []struct {
		base, ours, theirs string // "-": nothing
		isConflict         bool
		ofOurs, ofTheirs   string
	}{
		{"-", "-", "-", false, "-", "-"}, {"1", "1", "1", false, "1", "1"}, {"", "", "", false, "", ""}, // as it was
		{"1", "2", "1", false, "2", "2"}, {"1", "-", "1", false, "-", "-"}, {"-", "1", "-", false, "1", "1"}, // ours alone
		{"1", "", "1", false, "", ""}, {"", "-", "", false, "-", "-"}, {"-", "", "-", false, "", ""}, {"", "1", "", false, "1", "1"},
		{"1", "1", "2", false, "2", "2"}, {"1", "1", "-", false, "-", "-"}, {"-", "-", "1", false, "1", "1"}, // theirs alone
		{"1", "1", "", false, "", ""}, {"", "", "-", false, "-", "-"}, {"-", "-", "", false, "", ""}, {"", "", "1", false, "1", "1"},
		{"1", "2", "2", false, "2", "2"}, {"1", "-", "-", false, "-", "-"}, {"-", "1", "1", false, "1", "1"}, // alike
		{"1", "", "", false, "", ""}, {"", "-", "-", false, "-", "-"}, {"-", "", "", false, "", ""}, {"", "1", "1", false, "1", "1"},
		{"1", "2", "3", true, "2", "3"}, {"1", "-", "2", true, "-", "2"}, {"1", "2", "-", true, "2", "-"}, {"-", "1", "2", true, "1", "2"}, // each in its own way
		{"1", "", "2", true, "", "2"}, {"1", "2", "", true, "2", ""}, {"", "1", "2", true, "1", "2"},
		{"1", "", "-", true, "", "-"}, {"1", "-", "", true, "-", ""}, {"-", "", "1", true, "", "1"}, {"-", "1", "", true, "1", ""},
		{"", "-", "1", true, "-", "1"}, {"", "1", "-", true, "1", "-"},
	} {
		for _, beside := range []string{"", "b1 m1", "b1 c1 d1 e1 f1 g1 h1 i1 l1 m1 n1 o1 p1"} { // of heights 1 and 2
			text := func(w string) string {
				if w == "-" {
					return beside
				}
				return "a" + w + " " + beside
			}
			x := trioOfWords(t, text(c.base), text(c.ours), text(c.theirs))
			var want []api.Conflict
			if c.isConflict {
				want = []api.Conflict{conflict("a", c.base, c.ours, c.theirs)}
			}
			what := fmt.Sprintf("%q, %q, %q", c.base, c.ours, c.theirs)
			equalConflicts(t, "Conflicts of "+what, x.tells(t), want)
			for rule, then := range []string{mergeFail: c.ofOurs, byOurs: c.ofOurs, byTheirs: c.ofTheirs} {
				mark := x.v.Mark()
				came := x.merges(t, rule)
				equal(t, what+": ErrMerge", came.e == errMerge, c.isConflict && rule == mergeFail)
				if came.e == 0 {
					equal(t, fmt.Sprintf("%s by the rule %d", what, rule), toldPairs(pairs(t, x.v, came.tree)), toldPairs(words(text(then))))
				}
				x.v.Undo(mark)
			}
		}
	}
}

// Three trees that have at their keys all there is to have: nothing,
// the empty value, short ones and long ones, some alike.
func TestP21_1AllOfThem(t *testing.T) {
	values := [][]byte{nil, {}, []byte("1"), value(inline), value(inline + 1), turned(value(inline+1), inline), value(500), turned(value(500), 0), value(maxValue)}
	of := func(x, y, z int) int { return (x*len(values)+y)*len(values) + z }
	var l [3][]api.Pair
	for x := range values {
		for y := range values {
			for z := range values {
				n := of(x, y, z)
				for k, at := range []int{x, y, z} {
					if at > 0 {
						l[k] = append(l[k], api.Pair{Key: []byte{byte(n >> 8), byte(n)}, Value: values[at]})
					}
				}
			}
		}
	}
	v := newVault(t, 20000, 2)
	c := trioOf(v, built(t, v, l[0]), built(t, v, l[1]), built(t, v, l[2]), nil)
	conflicts := c.tells(t)
	n := len(values)
	equal(t, "how many conflicts", len(conflicts), n*(n-1)*(n-2)) // all three unlike
	for _, rule := range rules() {
		mark := v.Mark()
		came := c.merges(t, rule)
		equal(t, "the error", came.e == 0, rule != mergeFail)
		c.v.Undo(mark)
	}
}

// Trees of all kinds, that share all, some and no pages.
func TestP21_1Trios(t *testing.T) {
	t.Parallel()
	r, met := draw.Numbers(701), met{}
	for round := range 500 {
		c := someTrio(t, &r, 1+round%4)
		l := c.tells(t)
		met[c.share()]++
		met["heights "+c.heights()]++
		met[c.alike()]++
		for _, x := range l {
			met[fmt.Sprint("has ", x.Has)]++
		}
		if len(l) == 0 {
			met["no conflict"]++
		}
	}
	met.wants(t, 20, "all shared", "some shared", "none shared", "heights alike", "heights unlike", "three trees", "no conflict",
		"has [true true true]", "has [true false true]", "has [true true false]", "has [false true true]")
	met.wants(t, 3, "base is ours", "base is theirs", "ours is theirs", "one tree", "three trees, no base", "three trees, no ours", "three trees, no theirs", "ours is theirs, no ours, no theirs")
}

// Where one side is as base, or both sides are alike, there is no
// conflict, whatever else differs.
func TestP21_1OfOneSide(t *testing.T) {
	t.Parallel()
	r := draw.Numbers(702)
	for round := range 100 {
		c := someTrio(t, &r, 1+round%3)
		for _, l := range [][3]api.Tree{{c.base, c.base, c.theirs}, {c.base, c.ours, c.base}, {c.base, c.ours, c.ours}, {empty, empty, c.ours}, {c.ours, empty, empty}, {empty, empty, empty}} {
			got, e := merge.Conflicts(c.v, l[0], l[1], l[2])
			equal(t, fmt.Sprint("Conflicts of ", l), fmt.Sprint(len(got), e), fmt.Sprint(0, api.OK))
		}
		x, e := fork.Clone(c.v, c.base)
		equal(t, "Clone", e, 0)
		got, e := merge.Conflicts(c.v, c.base, x, c.theirs)
		equal(t, "Conflicts of a clone", fmt.Sprint(len(got), e), fmt.Sprint(0, api.OK))
	}
}
