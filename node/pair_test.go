package node_test

import (
	"fmt"
	"slices"
	"strings"
	"testing"

	"coppice/api"
	"coppice/draw"
	"coppice/node"
	"coppice/span"
)

func TestExamplesOfSplitAndJoin(t *testing.T) {
	for _, c := range []struct {
		p              api.Page
		left, right, s string
		ok             bool
	}{
		{leaf("a", "b", "c", "d", "ea", "f", "g", "h"), "a b c d", "ea f g h", "e", true},
		{leaf("a", "b", "c", "d", "ea", "f", "g"), "", "", "", false},
		{leaf("a", "a", "a", "a", "a", "a", "a", "a"), "", "", "", false},
		{index("-", "b", "c", "d", "e", "f", "g", "h"), "- b c d", "- f g h", "e", true},
	} {
		a := split(c.p)
		equal(t, "Split of "+keys(c.p), fmt.Sprint(keys(a.left), "|", keys(a.right), "|", string(a.sep), a.ok), fmt.Sprint(c.left, "|", c.right, "|", c.s, c.ok))
	}
	for _, c := range []struct {
		left, right api.Page
		sep, want   string
		ok          bool
	}{
		{leaf("a", "b"), leaf("d"), "c", "a b d", true},
		{index("-", "b"), index("-", "f"), "d", "- b d f", true},
		{leaf("a", "b"), index("-", "f"), "d", "", false},
		{index("-", "b"), leaf("d"), "c", "", false},
		{leaf("a", "b", "c", "d", "e"), leaf("f", "g", "h", "i", "j"), "f", "", false},
	} {
		p, ok := node.Join(c.left, c.right, []byte(c.sep))
		equal(t, "Join of "+keys(c.left)+" and "+keys(c.right), fmt.Sprint(keys(p), ok), fmt.Sprint(c.want, c.ok))
	}
}

func TestExamplesOfLend(t *testing.T) {
	for _, c := range []struct {
		left, right api.Page
		sep         string
		toRight     bool
		l, r, s     string
		ok          bool
	}{
		{leaf("a", "b", "c"), leaf("x"), "w", true, "a b", "c x", "c", true},
		{leaf("a"), leaf("cab", "d"), "c", false, "a cab", "d", "d", true},
		{index("-", "b", "c"), index("-", "x"), "m", true, "- b", "- m x", "c", true},
		{index("-", "b"), index("-", "x", "y"), "m", false, "- b m", "- y", "x", true},
		{leaf("a"), leaf("c"), "b", true, "", "", "", false},
		{leaf("a", "b"), leaf("c", "d", "e", "f", "g", "h", "i", "j"), "c", true, "", "", "", false},
	} {
		a := lend(c.left, c.right, c.sep, c.toRight)
		equal(t, "Lend of "+keys(c.left)+" and "+keys(c.right), fmt.Sprint(keys(a.left), "|", keys(a.right), "|", string(a.sep), a.ok), fmt.Sprint(c.l, "|", c.r, "|", c.s, c.ok))
	}
}

// modelSplit is P12.4 word by word.
func modelSplit(p api.Page) pair {
	if !meant(p.Kind) || len(p.Items) != most {
		return pair{}
	}
	left, right := of(p, p.Items[:least]...), of(p, p.Items[least:]...)
	if p.Kind == leafKind {
		sep, ok := span.Between(p.Items[3].Key, p.Items[4].Key)
		return pair{left, right, sep, ok}
	}
	right.Items[0] = keyed(right.Items[0], "")
	return pair{left, right, p.Items[4].Key, true}
}

// modelJoin is P12.5 word by word.
func modelJoin(left, right api.Page, sep string) (api.Page, bool) {
	l, r := len(left.Items), len(right.Items)
	if !meant(left.Kind) || right.Kind != left.Kind || left.Level != right.Level || l == 0 || r == 0 || l+r > most {
		return api.Page{}, false
	}
	p := of(left, append(copyOf(left).Items, right.Items...)...)
	if p.Kind == indexKind {
		p.Items[l] = keyed(p.Items[l], sep)
	}
	return p, true
}

// modelLend is P12.6 word by word.
func modelLend(left, right api.Page, sep string, toRight bool) pair {
	l, r := slices.Clone(left.Items), slices.Clone(right.Items)
	gives, other := len(r), len(l)
	if toRight {
		gives, other = len(l), len(r)
	}
	if !meant(left.Kind) || right.Kind != left.Kind || left.Level != right.Level || gives < 2 || other < 1 || other >= most {
		return pair{}
	}
	ok, isLeaf := true, left.Kind == leafKind
	var between []byte
	switch {
	case isLeaf && toRight:
		r = append([]api.Item{l[len(l)-1]}, r...)
		l = l[:len(l)-1]
	case isLeaf:
		l = append(l, r[0])
		r = r[1:]
	case toRight:
		lent := l[len(l)-1]
		between = lent.Key
		r[0] = keyed(r[0], sep)
		r = append([]api.Item{keyed(lent, "")}, r...)
		l = l[:len(l)-1]
	default:
		l = append(l, keyed(r[0], sep))
		r = r[1:]
		between = r[0].Key
		r[0] = keyed(r[0], "")
	}
	if isLeaf {
		between, ok = span.Between(l[len(l)-1].Key, r[0].Key)
	}
	return pair{of(left, l...), of(right, r...), between, ok}
}

// sized is pages of a kind with each number of items up to beyond Most, with keys
// from a beginning on.
func sized(kind, level int, begin string) []api.Page {
	var l []api.Page
	for n := range most + 3 {
		var keys []string
		for i := range n {
			keys = append(keys, fmt.Sprintf("%s%02d", begin, i))
		}
		l = append(l, page(kind, level, keys...))
	}
	return l
}

func TestP12_4Split(t *testing.T) {
	splits := 0
	for _, kind := range kinds {
		for _, p := range append(sized(kind, 0, "k"), sized(kind, 3, "q")...) {
			for _, p := range []api.Page{p, odd(copyOf(p))} {
				a := split(p)
				two(t, "Split of "+text(p), a, modelSplit(p))
				equal(t, "it splits", a.ok, len(p.Items) == 8 && (kind == 1 || kind == 2))
				if a.ok {
					splits++
				}
			}
		}
	}
	equal(t, "splits", splits, 8)
}

// The separator of two leaves: as short as can be, or none.
func TestP12_4Separator(t *testing.T) {
	long := strings.Repeat("x", maxKey-1)
	for _, c := range []struct {
		low, high, sep string
		ok             bool
	}{
		{"d", "e", "e", true}, {"d", "ea", "e", true}, {"d", "da", "d\x00", true}, {"d", "d\x00", "d\x00", true},
		{"abx", "ady", "ac", true}, {long + "a", long + "c", long + "b", true}, {long + "a", long + "b", long + "b", true},
		{long, long + "\x00", long + "\x00", true}, {"d", "d", "", false}, {"e", "d", "", false},
		{long + "ab", long + "ac", "", false}, {long + "a", long + "ab", "", false}, {"", "", "", false}, {"-", "a", "\x00", true},
	} {
		p := leaf("0", "1", "2", c.low, c.high, "z1", "z2", "z3")
		a := split(p)
		two(t, "Split between "+c.low+" and "+c.high, a, modelSplit(p))
		equal(t, "the separator", fmt.Sprint(string(a.sep), a.ok), fmt.Sprint(c.sep, c.ok))
		q := index("0", "1", "2", c.low, c.high, "z1", "z2", "z3")
		b := split(q)
		two(t, "Split of an index", b, modelSplit(q))
		equal(t, "the separator of indexes", fmt.Sprint(string(b.sep), b.ok), fmt.Sprint(string(q.Items[4].Key), true))
		equal(t, "the right half's first Key", len(b.right.Items[0].Key), 0)
		equal(t, "its Child", b.right.Items[0].Child, q.Items[4].Child)
	}
}

// bothJoinAndLend holds Join, and Lend to either side, against their words.
func bothJoinAndLend(t *testing.T, left, right api.Page, sep string) (joins, lends int) {
	t.Helper()
	what := fmt.Sprintf("%s and %s, between them %q", text(left), text(right), sep)
	got, ok := node.Join(left, right, []byte(sep))
	want, wantOk := modelJoin(left, right, sep)
	one(t, "Join of "+what, got, ok, want, wantOk)
	if ok {
		joins++
	}
	for _, toRight := range []bool{false, true} {
		a := lend(left, right, sep, toRight)
		two(t, fmt.Sprintf("Lend, %v, of %s", toRight, what), a, modelLend(left, right, sep, toRight))
		if a.ok {
			lends++
		}
	}
	return joins, lends
}

// Of all numbers of items, of one kind: at the bounds and one beyond.
func TestP12_5And6Bounds(t *testing.T) {
	for _, kind := range kinds {
		joins, lends := 0, 0
		for _, left := range sized(kind, 1, "b") {
			for _, right := range sized(kind, 1, "c") {
				for _, sep := range []string{"c", ""} {
					j, l := bothJoinAndLend(t, left, right, sep)
					k, m := bothJoinAndLend(t, odd(copyOf(left)), odd(copyOf(right)), sep)
					joins, lends = joins+j+k, lends+l+m
				}
			}
		}
		if meant(kind) {
			// Join: 28 pairs of at least one item with 8 in all; Lend: to either side
			// 9 numbers of the one from 2 to 10 and 7 of the other from 1 to 7.
			equal(t, fmt.Sprint("joins of kind ", kind), joins, 28*4)
			equal(t, fmt.Sprint("lends of kind ", kind), lends, 2*9*7*4)
			continue
		}
		equal(t, fmt.Sprint("joins and lends of kind ", kind), joins+lends, 0)
	}
}

func TestP12_5And6OfOtherKindsAndLevels(t *testing.T) {
	for _, kind := range kinds {
		for _, other := range kinds {
			for _, level := range []int{0, 1, 2, -1, 11, 12, greatest, smallest} {
				for _, level2 := range []int{0, 1, 2, -1, 11, 12, greatest, smallest} {
					left, right := page(kind, level, "a", "b", "c"), page(other, level2, "x", "y", "z")
					joins, lends := bothJoinAndLend(t, left, right, "m")
					fit := 0
					if kind == other && meant(kind) && level == level2 {
						fit = 1
					}
					equal(t, "joins", joins, fit)
					equal(t, "lends", lends, 2*fit)
				}
			}
		}
	}
}

// Each page keeps what is its own: a joined one that of the left.
func TestP12_5And6KeepTheRest(t *testing.T) {
	for _, kind := range []int{leafKind, indexKind} {
		left, right := odd(page(kind, 0, "a", "b", "c")), odd(page(kind, 0, "x", "y", "z"))
		left.Data, left.Next, right.Data, right.Next = []byte("L"), 1, []byte("R"), 2
		joins, lends := bothJoinAndLend(t, left, right, "m")
		equal(t, "joins", joins, 1)
		equal(t, "lends", lends, 2)
		p, _ := node.Join(left, right, []byte("m"))
		equal(t, "what is joined", fmt.Sprintf("%d %d %s %d", p.Kind, p.Level, p.Data, p.Next), fmt.Sprintf("%d -7 L 1", kind))
		for _, toRight := range []bool{false, true} {
			a := lend(left, right, "m", toRight)
			equal(t, "the left one", fmt.Sprintf("%d %d %s %d", a.left.Kind, a.left.Level, a.left.Data, a.left.Next), fmt.Sprintf("%d -7 L 1", kind))
			equal(t, "the right one", fmt.Sprintf("%d %d %s %d", a.right.Kind, a.right.Level, a.right.Data, a.right.Next), fmt.Sprintf("%d -7 R 2", kind))
		}
	}
}

// The separator that is handed in is not looked at in leaves; in indexes it is a
// Key, whatever bytes it has.
func TestP12_5And6SeparatorsOfAllKinds(t *testing.T) {
	for _, sep := range []string{"", "\x00", "a", "m", "zz", strings.Repeat("m", maxKey), strings.Repeat("m", maxKey+1), strings.Repeat("m", 5000)} {
		joins, lends := bothJoinAndLend(t, leaf("a", "b"), leaf("x", "y"), sep)
		equal(t, "of leaves", [2]int{joins, lends}, [2]int{1, 2})
		joins, lends = bothJoinAndLend(t, index("-", "b"), index("-", "y"), sep)
		equal(t, "of indexes", [2]int{joins, lends}, [2]int{1, 2})
		p, _ := node.Join(leaf("a", "b"), leaf("x", "y"), []byte(sep))
		equal(t, "Join of leaves", keys(p), "a b x y")
		equal(t, "Lend of leaves", string(lend(leaf("a", "b"), leaf("x", "y"), sep, true).sep), "b")
		q, _ := node.Join(index("-", "b"), index("-", "y"), []byte(sep))
		equal(t, "Join of indexes", string(q.Items[2].Key), sep)
	}
	p, ok := node.Join(index("-", "b"), index("-", "y"), nil)
	one(t, "Join with nil", p, ok, of(p, p.Items...), true)
	equal(t, "the Key", len(p.Items[2].Key), 0)
}

// Leaves between which there is no separator lend nothing; but they are joined.
func TestP12_6NoSeparator(t *testing.T) {
	long := strings.Repeat("x", maxKey)
	for _, c := range []struct {
		left, right     []string
		toLeft, toRight bool
	}{
		{[]string{"b", "b"}, []string{"b", "b"}, false, false},
		{[]string{"a", "b"}, []string{"b", "b"}, false, true},
		{[]string{"b", "b"}, []string{"b", "c"}, true, false},
		{[]string{"c", "a"}, []string{"b", "d"}, true, false},
		{[]string{"a", long + "a"}, []string{long + "b", long + "c"}, false, true},
		{[]string{long + "a", long + "b"}, []string{long + "c", "y"}, true, false},
		{[]string{"y", "x"}, []string{"b", "a"}, false, false},
	} {
		left, right := leaf(c.left...), leaf(c.right...)
		joins, _ := bothJoinAndLend(t, left, right, "m")
		equal(t, "joins", joins, 1)
		equal(t, "to the left: "+keys(left)+", "+keys(right), lend(left, right, "m", false).ok, c.toLeft)
		equal(t, "to the right: "+keys(left)+", "+keys(right), lend(left, right, "m", true).ok, c.toRight)
	}
}

// Pages of all kinds, in order or not.
func TestP12_4To6Random(t *testing.T) {
	r := draw.Numbers(124)
	splits, joins, lends := 0, 0, 0
	for range 40000 {
		p, q := anyPage(&r), anyPage(&r)
		if r.Below(4) > 0 {
			q.Kind, q.Level = p.Kind, p.Level
		}
		a := split(p)
		two(t, "Split of "+text(p), a, modelSplit(p))
		if a.ok {
			splits++
		}
		j, l := bothJoinAndLend(t, p, q, []string{shortKey(&r), anyKey(&r), ""}[r.Below(3)])
		joins, lends = joins+j, lends+l
	}
	if splits < 300 || joins < 500 || lends < 1000 {
		t.Fatalf("too few were met: %d splits, %d joins, %d lends", splits, joins, lends)
	}
}
