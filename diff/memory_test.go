package diff_test

import (
	"bytes"
	"fmt"
	"slices"
	"testing"

	"coppice/api"
	"coppice/diff"
	"coppice/draw"
	"coppice/fork"
	"coppice/grove"
	"coppice/vault"
	"coppice/view"
)

// mark fills the spare room of rows; so many bytes of it there are, and so many changes
// behind a list.
const mark, spareBytes, spareChanges = 0xC3, 2 * chunk, 12

// roomy is the row with spare room behind it, all of it marked.
func roomy(b []byte) []byte {
	return append(slices.Clone(b), bytes.Repeat([]byte{mark}, spareBytes)...)[:len(b)]
}

// isUntouched: are a roomy row and its spare room as they were?
func isUntouched(b, was []byte) bool {
	return bytes.Equal(b, was) && bytes.Equal(b[len(b):len(b)+spareBytes], bytes.Repeat([]byte{mark}, spareBytes))
}

// turn turns all bytes of a row, its spare room too.
func turn(b []byte) {
	b = b[:cap(b)]
	for k := range b {
		b[k] ^= 0xA5
	}
}

// roomyChanges is a list, each row of which has spare room, with changes in its own.
func roomyChanges(l []api.Change) []api.Change {
	spare := slices.Repeat([]api.Change{change(changed, "spare", "room", "here")}, spareChanges)
	var given []api.Change
	for _, c := range slices.Concat(l, spare) {
		given = append(given, api.Change{Kind: c.Kind, Key: roomy(c.Key), Old: roomy(c.Old), New: roomy(c.New)})
	}
	return given[:len(l)]
}

// areUntouched: are such a list and its spare room as they were?
func areUntouched(given, was []api.Change) bool {
	spare := slices.Repeat([]api.Change{change(changed, "spare", "room", "here")}, spareChanges)
	for k, c := range slices.Concat(was, spare) {
		x := given[:len(was)+spareChanges][k]
		if x.Kind != c.Kind || !isUntouched(x.Key, c.Key) || !isUntouched(x.Old, c.Old) || !isUntouched(x.New, c.New) {
			return false
		}
	}
	return len(given) == len(was)
}

// spoil writes over all of a list of changes, all spare room too.
func spoil(l []api.Change) {
	l = l[:cap(l)]
	for k := range l {
		turn(l[k].Key)
		turn(l[k].Old)
		turn(l[k].New)
		l[k] = change(9, "other", "one", "another")
	}
}

// rowsOf is all rows of a list of changes.
func rowsOf(l []api.Change) [][]byte {
	var rows [][]byte
	for _, c := range l {
		rows = append(rows, c.Key, c.Old, c.New)
	}
	return rows
}

// P20.6: a range that is handed in is neither changed nor kept, its spare room included.
func TestP20_6Ranges(t *testing.T) {
	t.Parallel()
	r := draw.Numbers(661)
	for round := range 60 {
		c := someCouple(t, &r, 1+round%3)
		seen := view.Vault(c.v)
		for _, by := range c.ranges(&r, 4) {
			given := api.Range{Lo: roomy(by.Lo), Hi: roomy(by.Hi), Open: by.Open}
			l := list(t, c.v, c.a, c.b, given)
			want := told(l)
			equal(t, "what was handed in", isUntouched(given.Lo, by.Lo) && isUntouched(given.Hi, by.Hi), true)
			turn(given.Lo)
			turn(given.Hi)
			equal(t, "the answer, the range spoiled", told(l), want)
			equal(t, "without spare room", told(list(t, c.v, c.a, c.b, api.Range{Lo: slices.Clip(by.Lo), Hi: slices.Clip(by.Hi), Open: by.Open})), want)
		}
		equal(t, "the vault", view.Vault(c.v), seen)
	}
}

// P20.6: what is told is new memory each time: it shares none with another answer, with
// what is handed in, nor with the vault.
func TestP20_6Answers(t *testing.T) {
	t.Parallel()
	r, some := draw.Numbers(662), 0
	for round := range 80 {
		c := someCouple(t, &r, 1+round%3)
		seen := view.Vault(c.v)
		walk, given := diff.Walk(c.v, c.a, c.b), someChanges(&r, 1+r.Below(9))
		for name, do := range map[string]func() []api.Change{
			"List": func() []api.Change { return list(t, c.v, c.a, c.b, allKeys) },
			"Walk": func() []api.Change { return slices.Collect(walk) },
			"Turn": func() []api.Change { return diff.Turn(given) },
		} {
			was := told(given)
			first, second := do(), do()
			want := told(second)
			equal(t, name+" twice", told(first), want)
			spoil(first)
			equal(t, name+": another answer", told(second), want)
			equal(t, name+": what was handed in", told(given), was)
			spoil(second)
			equal(t, name+": asked again", told(do()), want)
			some += len(second)
		}
		pages, again := read(t, c.v, c.a, c.b), read(t, c.v, c.a, c.b)
		for k := range pages[:cap(pages)] {
			pages[:cap(pages)][k] = -1
		}
		equalLists(t, "Read: another answer", again, modelRead(c.v, c.a, c.b))
		equal(t, "the vault", view.Vault(c.v), seen)
	}
	equal(t, "some differ", some > 1000, true)
}

// P20.6: no two rows of one answer share memory, their spare room included.
func TestP20_6RowsOfOneAnswer(t *testing.T) {
	t.Parallel()
	r := draw.Numbers(663)
	for round := range 30 {
		c := someCouple(t, &r, 1+round%2)
		one := []byte("one row")
		for name, l := range map[string][]api.Change{
			"List":               list(t, c.v, c.a, c.b, allKeys),
			"Walk":               slices.Collect(diff.Walk(c.v, c.a, c.b)),
			"Turn":               diff.Turn(someChanges(&r, 6)),
			"Turn of one row":    diff.Turn(slices.Repeat([]api.Change{{Kind: changed, Key: one, Old: one, New: one[:3]}}, 5)),
			"Turn of its pieces": diff.Turn([]api.Change{{Kind: added, Key: one[:2], Old: one[2:4], New: one[4:]}, {Kind: 8, Key: one[3:5], Old: one[:0]}}),
		} {
			rows := rowsOf(l)
			rows = rows[:min(len(rows), 150)]
			var was [][]byte
			for _, b := range rows {
				was = append(was, bytes.Clone(b))
			}
			for k, b := range rows {
				turn(b)
				for n := range rows {
					if n != k && !bytes.Equal(rows[n], was[n]) {
						t.Fatalf("%s: row %d lies in row %d", name, n, k)
					}
				}
				turn(b)
			}
		}
		equal(t, "the row that was handed in", string(one), "one row")
	}
}

// R6 and P20.6: what a walk tells is the loop's own: when it is written over, neither what
// comes behind it changes, nor the next walk.
func TestP20_6Walks(t *testing.T) {
	t.Parallel()
	r := draw.Numbers(664)
	for round := range 60 {
		c := someCouple(t, &r, 1+round%3)
		seen, want := view.Vault(c.v), modelList(pairs(t, c.v, c.a), pairs(t, c.v, c.b))
		walk, other := diff.Walk(c.v, c.a, c.b), diff.Walk(c.v, c.a, c.b)
		for range 2 {
			k := 0
			for x := range walk {
				equalChanges(t, "a change", []api.Change{x}, want[k:k+1])
				spoil([]api.Change{x})
				k++
			}
			equal(t, "how many", k, len(want))
		}
		equalChanges(t, "another walk", slices.Collect(other), want)
		equal(t, "the vault", view.Vault(c.v), seen)
	}
}

// P20.6: changes that are handed in are neither changed nor kept, their rows and all spare
// room included, whether they are done or refused; and of them nothing but the bytes
// matters.
func TestP20_6Changes(t *testing.T) {
	t.Parallel()
	r, met := draw.Numbers(665), met{}
	for round := range 200 {
		g := grove.Any(&r, 1+round%3)
		s, _ := grove.Settings(&r).Lay(&r, g)
		l := scriptFor(&r, g, g.Pairs)
		l.more(r.Below(8))
		if round%4 == 0 {
			l.l = append(l.l, someChanges(&r, 1)...)
		}
		v, w := vaultOf(t, s), vaultOf(t, s)
		before, began, given := view.Vault(v), v.Mark(), roomyChanges(l.l)
		x, e := diff.Apply(v, g.Tree, given)
		equal(t, "Apply: what was handed in", areUntouched(given, l.l), true)
		then := view.Vault(v)
		turned := diff.Turn(given)
		equal(t, "Turn: what was handed in", areUntouched(given, l.l), true)
		spoil(given)
		equal(t, "Apply: what is kept", view.Vault(v), then)
		equalChanges(t, "Turn: the answer, the list spoiled", turned, modelTurn(l.l))
		y, f := diff.Apply(w, g.Tree, slices.Clip(l.l))
		equal(t, "Apply without spare room", fmt.Sprint(y, f), fmt.Sprint(x, e))
		equal(t, "the vault, without spare room", view.Vault(w), then)
		v.Undo(began)
		equal(t, "the vault, undone behind it", view.Vault(v), before)
		met[e.Error()]++
	}
	met.wants(t, 5, "error 0", "error 12", "error 13", "error 22")
}

// P20.6: keys and values that are pieces of one row, each being the spare room of the one
// ahead.
func TestP20_6PiecesOfOneRow(t *testing.T) {
	var row []byte
	for k := range 120 {
		row = append(row, byte(2*k), byte(2*k+1))
	}
	was := slices.Clone(row)
	var l []api.Change
	for k := range 60 {
		l = append(l, api.Change{Kind: added, Key: row[2*k : 2*k+1], Old: row[2*k : 2*k+3], New: row[k : k+60]})
		l = append(l, api.Change{Kind: changed, Key: row[2*k : 2*k+1], Old: row[k : k+60], New: row[k+1 : k+20]})
		if k%3 == 0 {
			l = append(l, api.Change{Kind: removed, Key: row[2*k : 2*k+1], Old: row[k+1 : k+20], New: row[2*k:]})
		}
	}
	v, w := newVault(t, 300, 2), newVault(t, 300, 2)
	x, e := diff.Apply(v, empty, l)
	equal(t, "Apply", e, 0)
	y, e := diff.Apply(w, empty, copied(l))
	equal(t, "Apply of copies", fmt.Sprint(y, e), fmt.Sprint(x, api.OK))
	equal(t, "the vaults", view.Vault(v), view.Vault(w))
	equalChanges(t, "Turn", diff.Turn(l), modelTurn(l))
	by := api.Range{Lo: row[20:21], Hi: row[80:81]}
	equalChanges(t, "List", list(t, v, empty, x, by), list(t, w, empty, y, span(string(row[20:21]), string(row[80:81]))))
	equal(t, "the row", bytes.Equal(row, was), true)
}

// R3: nil and an empty list are the same, also inside of changes and ranges.
func TestR3Lists(t *testing.T) {
	none := [][]byte{nil, {}, roomy(nil)}
	for _, a := range none {
		for _, b := range none {
			v := newVault(t, 20, 2)
			x, e := diff.Apply(v, empty, []api.Change{{Kind: added, Key: []byte("a"), Old: a, New: b}, {Kind: changed, Key: []byte("a"), Old: a, New: b}, {Kind: added, Key: []byte("b"), New: []byte("1")}})
			equal(t, "Apply", fmt.Sprint(x, e), fmt.Sprint(tree(1, 1, 2), api.OK))
			want := []api.Change{change(added, "a", "", ""), change(added, "b", "", "1")}
			for _, by := range []api.Range{{Lo: a, Open: true}, {Lo: a, Hi: b, Open: true}, {Lo: b, Hi: []byte("c")}} {
				equalChanges(t, "List", list(t, v, empty, x, by), want)
			}
			equal(t, "List by no range", len(list(t, v, empty, x, api.Range{Lo: a, Hi: b})), 0)
			appliesNot(t, v, x, []api.Change{{Kind: removed, Key: a, Old: b}}, errKey)
			equalChanges(t, "Turn", diff.Turn([]api.Change{{Kind: added, Key: a, Old: b, New: a}}), []api.Change{{Kind: removed}})
			x, e = diff.Apply(v, x, []api.Change{{Kind: removed, Key: []byte("a"), Old: a, New: b}})
			equal(t, "Apply", fmt.Sprint(x, e), fmt.Sprint(tree(1, 1, 1), api.OK))
		}
	}
}

// R5: two vaults with the same in them are told of alike, each time anew, and what is done
// to both is the same.
func TestR5TheSame(t *testing.T) {
	t.Parallel()
	r := draw.Numbers(666)
	for round := range 40 {
		c := someCouple(t, &r, 1+round%3)
		s := grove.StoreFrom(c.v)
		by := c.ranges(&r, 1)[4]
		text := func(v *vault.Vault) string {
			began := v.Mark()
			l := list(t, v, c.a, c.b, allKeys)
			some, _ := diff.List(v, c.a, c.b, by)
			answers := told(l) + told(some) + told(slices.Collect(diff.Walk(v, c.a, c.b))) + told(diff.Turn(l)) + fmt.Sprint(read(t, v, c.a, c.b))
			x, e := fork.Clone(v, c.a)
			equal(t, "Clone", e, 0)
			y, e := diff.Apply(v, x, l)
			answers += fmt.Sprint(y, e) + view.Vault(v)
			v.Undo(began)
			return answers
		}
		first := text(c.v)
		for range 3 {
			equal(t, "once more", text(c.v), first)
			equal(t, "in another vault", text(vaultOf(t, s)), first)
		}
	}
}
