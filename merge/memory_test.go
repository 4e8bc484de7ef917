package merge_test

import (
	"bytes"
	"fmt"
	"testing"

	"coppice/api"
	"coppice/draw"
	"coppice/grove"
	"coppice/merge"
	"coppice/put"
	"coppice/vault"
	"coppice/view"
)

// turn turns all bytes of a row, its spare room too.
func turn(b []byte) {
	b = b[:cap(b)]
	for k := range b {
		b[k] ^= 0xA5
	}
}

// rowsIn is all rows of a list of conflicts.
func rowsIn(l []api.Conflict) [][]byte {
	var rows [][]byte
	for _, c := range l {
		rows = append(rows, c.Key, c.Base, c.Ours, c.Theirs)
	}
	return rows
}

// spoil writes over all of a list of conflicts, all spare room too.
func spoil(l []api.Conflict) {
	l = l[:cap(l)]
	for _, b := range rowsIn(l) {
		turn(b)
	}
	for k := range l {
		l[k] = conflict("other", "one", "-", "another")
	}
}

// R4: what is told is new memory each time: it shares none with another answer, nor with
// the vault, whether what it was told beside was done or refused.
func TestR4Answers(t *testing.T) {
	t.Parallel()
	r, some := draw.Numbers(761), 0
	for round := range 90 {
		c := someTrio(t, &r, 1+round%3)
		before, mark := view.Vault(c.v), c.v.Mark()
		want := told(c.tells(t))
		for name, do := range map[string]func() []api.Conflict{
			"Conflicts": func() []api.Conflict { return c.tells(t) },
			"MergeFail": func() []api.Conflict { return c.mergedBy(t, mergeFail) },
			"MergeOurs": func() []api.Conflict { return c.mergedBy(t, byOurs) },
			"MergeTheirs": func() []api.Conflict {
				return c.mergedBy(t, byTheirs)
			},
		} {
			first := do()
			then := view.Vault(c.v)
			c.v.Undo(mark)
			second := do()
			equal(t, name+" twice", told(first)+then, told(second)+view.Vault(c.v))
			spoil(first)
			equal(t, name+": another answer", told(second), want)
			spoil(second)
			equal(t, name+": the vault", view.Vault(c.v), then)
			c.v.Undo(mark)
			equal(t, name+": the vault, undone", view.Vault(c.v), before)
			equal(t, name+": asked again", told(do()), want)
			c.v.Undo(mark)
			some += len(second)
		}
	}
	equal(t, "some conflicts", some > 500, true)
}

// mergedBy is the conflicts of a Merge, whatever its error.
func (c trio) mergedBy(t *testing.T, rule int) []api.Conflict {
	t.Helper()
	_, l, e := merge.Merge(c.v, c.base, c.ours, c.theirs, rule)
	if e == errSpace || e == errRefs {
		return c.tells(t)
	}
	equal(t, "the error", e == 0 || e == errMerge, true)
	return l
}

// R4: no two rows of one answer share memory, their spare room included.
func TestR4RowsOfOneAnswer(t *testing.T) {
	t.Parallel()
	r, some := draw.Numbers(762), 0
	for round := range 120 {
		c := someTrio(t, &r, 1+round%2)
		mark := c.v.Mark()
		for _, rule := range append(rules(), -1) {
			l := c.tells(t)
			if rule >= 0 {
				l = c.mergedBy(t, rule)
			}
			rows := rowsIn(l)
			rows = rows[:min(len(rows), 200)]
			var was [][]byte
			for _, b := range rows {
				was = append(was, bytes.Clone(b))
			}
			for k, b := range rows {
				turn(b)
				for n := range rows {
					if n != k && !bytes.Equal(rows[n], was[n]) {
						t.Fatalf("row %d lies in row %d", n, k)
					}
				}
				turn(b)
			}
			some += len(rows)
			c.v.Undo(mark)
		}
	}
	equal(t, "some rows", some > 1000, true)
}

// R3: nothing, and the empty value: no bytes stand for both, and Has tells which it is.
func TestR3Lists(t *testing.T) {
	for _, none := range [][]byte{nil, {}, make([]byte, 3, 30)[:0]} {
		v := newVault(t, 20, 2)
		made := func(value []byte) api.Tree {
			x, _, e := put.Put(v, empty, []byte("k"), value)
			equal(t, "Put", e, 0)
			return x
		}
		base, other := made([]byte("1")), made(none)
		l, e := merge.Conflicts(v, base, empty, other)
		equal(t, "Conflicts", e, 0)
		equalConflicts(t, "Conflicts", l, []api.Conflict{conflict("k", "1", "-", "")})
		equal(t, "no bytes", len(l[0].Ours)+len(l[0].Theirs), 0)
		l, e = merge.Conflicts(v, empty, other, other)
		equal(t, "Conflicts of like ones", fmt.Sprint(len(l), e), fmt.Sprint(0, api.OK))
		x, l, e := merge.Merge(v, base, empty, other, byTheirs)
		equal(t, "Merge", fmt.Sprint(x.Items, len(l), e), fmt.Sprint(1, 1, api.OK))
		equal(t, "its pairs", toldPairs(pairs(t, v, x)), toldPairs(words("k")))
	}
}

// R5: two vaults with the same in them are told of alike, each time anew, and what is done
// to both is the same.
func TestR5TheSame(t *testing.T) {
	t.Parallel()
	r := draw.Numbers(763)
	for round := range 40 {
		c := someTrio(t, &r, 1+round%3)
		s := grove.StoreFrom(c.v)
		text := func(v *vault.Vault) string {
			began, answers := v.Mark(), ""
			for _, rule := range rules() {
				x, l, e := merge.Merge(v, c.base, c.ours, c.theirs, rule)
				answers += fmt.Sprint(x, told(l), e) + view.Vault(v)
				v.Undo(began)
			}
			l, e := merge.Conflicts(v, c.base, c.ours, c.theirs)
			return answers + fmt.Sprint(told(l), e)
		}
		first := text(c.v)
		for range 3 {
			equal(t, "once more", text(c.v), first)
			equal(t, "in another vault", text(vaultOf(t, s)), first)
		}
	}
}
