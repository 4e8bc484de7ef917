package diff_test

import (
	"fmt"
	"slices"
	"testing"

	"coppice/api"
	"coppice/diff"
	"coppice/draw"
	"coppice/fork"
)

// P20.5: what differs from a to b, done to a, and to a tree with the same pairs, gives a
// tree with b's pairs; turned about and done to that one it gives one with a's.
func TestP20_5ThereAndBack(t *testing.T) {
	t.Parallel()
	r, met := draw.Numbers(651), met{}
	for round := range 140 {
		var c couple
		switch height := 1 + round%3; round % 4 {
		case 0:
			c = alike(t, &r, height)
		case 1:
			c = siblings(t, &r, height, 1+r.Below(12))
		case 2:
			c = strangers(t, &r, height)
		default:
			c = relatives(t, &r, height, 1)
		}
		mine, theirs := pairs(t, c.v, c.a), pairs(t, c.v, c.b)
		l := list(t, c.v, c.a, c.b, allKeys)
		met[fmt.Sprint(len(l) > 0)]++
		back := diff.Turn(l)
		same := built(t, c.v, mine)
		others := []api.Tree{c.b}
		if c.a == c.b && round%4 != 0 { // the same page, led to once
			others = nil
		}
		for _, x := range []api.Tree{same, c.a} {
			came := applies(t, c.v, x, l, others...)
			if came.e != 0 {
				met[came.e.Error()]++
				break
			}
			equal(t, "the pairs behind Apply", toldPairs(pairs(t, c.v, came.tree)), toldPairs(theirs))
			equal(t, "how many differ then", len(list(t, c.v, came.tree, c.b, allKeys)), 0)
			came = applies(t, c.v, came.tree, back, others...)
			if came.e != 0 {
				met[came.e.Error()]++
				break
			}
			equal(t, "the pairs behind Apply of Turn", toldPairs(pairs(t, c.v, came.tree)), toldPairs(mine))
			met["there and back"]++
		}
	}
	met.wants(t, 200, "there and back")
	met.wants(t, 20, "true", "false")
}

// P20.5: what differs in the two parts of a split range, one behind the other, is what
// differs in the whole; what is done of a range makes the two alike there, and nowhere else.
func TestP20_5Parts(t *testing.T) {
	t.Parallel()
	r, some := draw.Numbers(652), 0
	for round := range 100 {
		c := siblings(t, &r, 1+round%3, 10)
		whole := list(t, c.v, c.a, c.b, allKeys)
		for _, at := range c.grown.Rows(&r, 3) {
			low, high := list(t, c.v, c.a, c.b, api.Range{Hi: at}), list(t, c.v, c.a, c.b, api.Range{Lo: at, Open: true})
			equalChanges(t, "the parts", slices.Concat(low, high), whole)
		}
		by := c.ranges(&r, 1)[4]
		mark := c.v.Mark()
		came := applies(t, c.v, c.a, list(t, c.v, c.a, c.b, by), c.b)
		equal(t, "Apply", came.e, 0)
		left := list(t, c.v, came.tree, c.b, allKeys)
		equal(t, "how many differ there still", len(in(left, by)), 0)
		equal(t, "how many differ elsewhere", len(left), len(whole)-len(in(whole, by)))
		some += len(in(whole, by))
		c.v.Undo(mark)
	}
	equal(t, "some differ there", some > 100, true)
}

// Trees that are one behind the other: what differs from each to the next, done one behind
// the other to the first one, gives the last one's pairs; and back.
func TestP20_5Rows(t *testing.T) {
	t.Parallel()
	r := draw.Numbers(653)
	for round := range 12 {
		c := siblings(t, &r, 1+round%3, 3)
		trees, all := []api.Tree{c.a, c.b}, list(t, c.v, c.a, c.b, allKeys)
		for range 8 {
			last := trees[len(trees)-1]
			x, e := fork.Clone(c.v, last)
			equal(t, "Clone", e, 0)
			for range 1 + r.Below(4) {
				x = tended(t, &r, c.v, x, c.grown)
			}
			all = append(all, couple{c.v, last, x, c.grown}.tells(t, &r)...)
			trees = append(trees, x)
		}
		last := trees[len(trees)-1]
		then := applies(t, c.v, c.a, all, trees[1:]...)
		equal(t, "Apply", then.e, 0)
		equal(t, "the last one's pairs", toldPairs(pairs(t, c.v, then.tree)), toldPairs(pairs(t, c.v, last)))
		first := applies(t, c.v, last, diff.Turn(all), trees[1:len(trees)-1]...)
		equal(t, "Apply of Turn", first.e, 0)
		equal(t, "the first one's pairs", toldPairs(pairs(t, c.v, applies(t, c.v, then.tree, diff.Turn(all)).tree)), toldPairs(pairs(t, c.v, first.tree)))
	}
}
