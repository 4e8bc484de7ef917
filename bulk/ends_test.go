package bulk_test

import (
	"fmt"
	"testing"

	"coppice/api"
	"coppice/bulk"
	"coppice/draw"
	"coppice/grove"
	"coppice/vault"
	"coppice/view"
)

// Of trees that do not stand nothing is promised but that the calls end (R1); and with an
// error every other result is the zero value of its type (R2).

// asked is Load and Trim of a tree that need not stand, each undone behind it; their
// errors.
func asked(t *testing.T, v *vault.Vault, x api.Tree, l []api.Pair, r api.Range) (load, trim api.Errno) {
	t.Helper()
	mark := v.Mark()
	y, n, load := bulk.Load(v, x, l)
	if load != 0 && (y != empty || n != 0 || v.Mark() != mark) {
		t.Fatalf("Load beside error %d: %v, %d", load, y, n)
	}
	v.Undo(mark)
	y, n, trim = bulk.Trim(v, x, r)
	if trim != 0 && (y != empty || n != 0 || v.Mark() != mark) {
		t.Fatalf("Trim beside error %d: %v, %d", trim, y, n)
	}
	v.Undo(mark)
	return load, trim
}

// Without a vault there is no page.
func TestR1NoVault(t *testing.T) {
	for _, c := range []struct {
		l           []api.Pair
		build, load api.Errno
	}{
		{nil, 0, 0}, {letters("a"), errSpace, errSpace}, {letters("ab"), errSpace, errSpace}, {letters("ba"), errOrder, errSpace},
		{[]api.Pair{pair("", 1)}, errKey, errKey}, {[]api.Pair{pair("a", maxValue+1)}, errValue, errValue},
		{[]api.Pair{pair("a", maxValue)}, errSpace, errSpace}, {[]api.Pair{pair("a", 0), pair("", 0)}, errKey, errSpace},
	} {
		x, e := bulk.Build(nil, c.l)
		equal(t, "Build", fmt.Sprint(x, e), fmt.Sprint(empty, c.build))
		x, n, e := bulk.Load(nil, empty, c.l)
		equal(t, "Load", fmt.Sprint(x, n, e), fmt.Sprint(empty, 0, c.load))
	}
	for _, r := range []api.Range{{}, allKeys, span("a", "b"), span("b", "a")} {
		x, n, e := bulk.Trim(nil, empty, r)
		equal(t, "Trim of the empty tree", fmt.Sprint(x, n, e), fmt.Sprint(empty, 0, api.OK))
	}
	x, n, e := bulk.Trim(nil, tree(1, 1, 1), allKeys)
	equal(t, "Trim", fmt.Sprint(x, n, e), fmt.Sprint(empty, 0, api.Errno(errPage)))
	for _, x := range []api.Tree{tree(1, 1, 1), tree(3, 2, 9), tree(-1, -1, -1), tree(0, 0, 1), tree(1, greatest, 1), tree(1, lowest, 1)} {
		bulk.Load(nil, x, letters("ab"))
		bulk.Trim(nil, x, allKeys)
	}
}

// Trees of any numbers, in a vault with a tree of its own.
func TestR1AnyTree(t *testing.T) {
	t.Parallel()
	r := draw.Numbers(441)
	odd := []int{lowest, -1 << 32, -12, -1, 0, 1, 2, 3, 4, 5, 9, 11, 12, 13, 255, 256, 1 << 16, 1<<32 + 1, greatest}
	for height := 1; height <= 3; height++ {
		g := grove.Any(&r, height)
		s, _ := grove.Setting{Refs: 3, More: 20, Lasting: 2}.Lay(&r, g)
		v := vaultOf(t, s)
		seen := view.Vault(v)
		for _, root := range append(odd, g.Tree.Root, v.Len(), v.Len()+1) {
			for _, height := range append(odd, g.Tree.Height) {
				for _, items := range []int{lowest, 0, 1, greatest} {
					asked(t, v, tree(root, height, items), somePairs(&r, g, 2), someRange(&r, g))
				}
			}
		}
		equal(t, "behind it", view.Vault(v), seen)
	}
}

// Pages that lead anywhere, in rings too, with counts of any kind.
func TestR1AnyPages(t *testing.T) {
	t.Parallel()
	r, loads, trims := draw.Numbers(442), map[api.Errno]int{}, map[api.Errno]int{}
	for range 6000 {
		n := 1 + r.Below(10)
		pages := make([]api.Page, n)
		for k := range pages {
			if r.Below(6) > 0 {
				pages[k] = grove.AnyPage(&r, n)
			}
		}
		s, _ := grove.Settings(&r).Lay(&r, &grove.Grown{Pages: pages})
		v := vaultOf(t, s)
		seen := view.Vault(v)
		for root := 1; root <= n; root++ {
			x := tree(root, s.On[root-1].Level+1, 1+r.Below(40))
			var l []api.Pair
			for range 1 + r.Below(9) {
				l = append(l, api.Pair{Key: []byte{byte(r.Below(140))}, Value: someValue(&r)})
			}
			by := api.Range{Lo: []byte{byte(r.Below(140))}, Hi: []byte{byte(r.Below(140))}, Open: r.Below(3) == 0}
			load, trim := asked(t, v, x, l, by)
			loads[load]++
			trims[trim]++
		}
		equal(t, "behind Undo", view.Vault(v), seen)
	}
	equal(t, "some were loaded, others not", loads[0] > 200 && loads[errPage] > 200 && loads[errSpace] > 200, true)
	equal(t, "some were trimmed, others not", trims[0] > 200 && trims[errPage] > 200 && len(trims) > 3, true)
}

// A tree that is sound, but for one page of it, at each place.
func TestR1OnePageIsAnother(t *testing.T) {
	t.Parallel()
	r, loads, trims := draw.Numbers(443), map[api.Errno]int{}, map[api.Errno]int{}
	for round := range 60 {
		g := grove.Any(&r, 1+round%3)
		s, _ := grove.Settings(&r).Lay(&r, g)
		for k := range g.Pages {
			if k%(1+len(g.Pages)/20) > 0 {
				continue
			}
			other := s.Copy()
			switch r.Below(4) {
			case 0:
				other.Counts[k] = 0
			case 1:
				if at := r.Below(len(g.Pages)); g.Pages[at].Kind != 0 {
					other.On[k] = other.Page(at + 1)
				}
			default:
				other.On[k] = grove.AnyPage(&r, len(g.Pages))
			}
			v := vaultOf(t, other)
			for _, by := range []api.Range{someRange(&r, g), allKeys} {
				load, trim := asked(t, v, g.Tree, somePairs(&r, g, 1+r.Below(12)), by)
				loads[load]++
				trims[trim]++
			}
		}
	}
	equal(t, "some were loaded, others not", loads[0] > 50 && loads[errPage] > 50, true)
	equal(t, "some were trimmed, others not", trims[0] > 50 && trims[errPage] > 50, true)
}

// The same list, range and vault are answered alike each time, whatever else was asked.
func TestR5TheSame(t *testing.T) {
	t.Parallel()
	r := draw.Numbers(444)
	for round := range 30 {
		g := grove.Any(&r, 1+round%3)
		s, _ := grove.Settings(&r).Lay(&r, g)
		l, by := somePairs(&r, g, 9), someRange(&r, g)
		rises := lastValues(l)
		text := func(v *vault.Vault) string {
			mark, answers := v.Mark(), ""
			for _, do := range []func() string{
				func() string { return fmt.Sprint(bulk.Build(v, rises)) },
				func() string { return fmt.Sprint(bulk.Load(v, g.Tree, l)) },
				func() string { return fmt.Sprint(bulk.Trim(v, g.Tree, by)) },
			} {
				answers += do() + " " + view.Vault(v) + "\n"
				v.Undo(mark)
			}
			return answers
		}
		v := vaultOf(t, s)
		first := text(v)
		for range 3 {
			equal(t, "once more", text(v), first)
			equal(t, "in another vault", text(vaultOf(t, s)), first)
		}
	}
}
