package vault_test

import (
	"bytes"
	"slices"
	"testing"

	"coppice/api"
	"coppice/vault"
)

// mark fills the spare room of lists.
const mark = 0xC3

// room is the list with spare room behind it, all of it marked.
func room(b []byte) []byte {
	all := append(slices.Clone(b), bytes.Repeat([]byte{mark}, 40)...)
	return all[:len(b)]
}

// markedItem stands in the spare room of lists of items.
func markedItem() api.Item {
	return api.Item{Key: []byte("zz"), Value: []byte("zz"), Size: 2, Child: 99}
}

// roomy is the page with spare room behind each of its lists.
func roomy(p api.Page) api.Page {
	items := slices.Clone(p.Items)
	for i := range items {
		items[i].Key, items[i].Value = room(items[i].Key), room(items[i].Value)
	}
	all := append(items, markedItem(), markedItem())
	p.Items, p.Data = all[:len(p.Items)], room(p.Data)
	return p
}

// untouched: are the page and all of its spare room as they were?
func untouched(p, was api.Page) bool {
	marked := func(b []byte) bool {
		return bytes.Equal(b[len(b):len(b)+40], bytes.Repeat([]byte{mark}, 40))
	}
	same := text(p) == text(was) && marked(p.Data)
	for _, it := range p.Items {
		same = same && marked(it.Key) && marked(it.Value)
	}
	spare := api.Page{Items: p.Items[len(p.Items) : len(p.Items)+2]}
	return same && text(spare) == text(api.Page{Items: []api.Item{markedItem(), markedItem()}})
}

// spoil turns all that a page has, its spare room too.
func spoil(p api.Page) {
	turn := func(b []byte) {
		b = b[:cap(b)]
		for i := range b {
			b[i] ^= 0xA5
		}
	}
	for _, it := range p.Items[:cap(p.Items)] {
		turn(it.Key)
		turn(it.Value)
	}
	clear(p.Items[:cap(p.Items)])
	turn(p.Data)
}

// ofEachKind is pages of each kind, with all lists that one can have.
func ofEachKind() []api.Page {
	return []api.Page{V(1, 2), N(1, 2, 3), B(1), L("a", "b"), {Kind: blobKind, Data: bytes.Repeat([]byte{5}, mostInBlob)}}
}

// What Make and Write are handed is neither kept nor changed.
func TestP11_14MakeAndWriteKeepACopy(t *testing.T) {
	for _, p := range ofEachKind() {
		v := newVault(t, 2, 2)
		made := roomy(p)
		makes(t, v, made, 1, 0)
		makes(t, v, L("first"), 2, 0)
		written := roomy(p)
		writes(t, v, 2, written, 0)
		if !untouched(made, p) || !untouched(written, p) {
			t.Fatalf("what was handed in is changed: %s", text(p))
		}
		spoil(made)
		spoil(written)
		reads(t, v, 1, p, 0)
		reads(t, v, 2, p, 0)
		refused := roomy(p)
		makes(t, v, refused, 0, errSpace)
		keeps(t, v, 1, 0)
		writes(t, v, 1, refused, errPage)
		equal(t, "what was refused is untouched", untouched(refused, p), true)
		reads(t, v, 1, p, 0)
	}
	v := newVault(t, 2, 2)
	makes(t, v, L("a"), 1, 0)
	for want, p := range wrongPages() {
		q := roomy(p)
		makes(t, v, q, 0, want)
		writes(t, v, 1, q, want)
		equal(t, "what was refused is untouched", untouched(q, p), true)
	}
}

// What Load is handed is neither kept nor changed.
func TestP11_14LoadKeepsACopy(t *testing.T) {
	pages := ofEachKind()
	counts := slices.Grow([]int{1, 2, 1, 2, 1, 0}, 5)
	l := slices.Grow(numbered(pages...), 3)
	spare := l[:len(l)+1]
	spare[len(l)] = api.Numbered{No: 6, Page: L("spare")}
	for i := range l {
		l[i].Page = roomy(l[i].Page)
	}
	v, e := vault.Load(3, counts, l)
	equal(t, "Load", e, 0)
	before := look(v)
	for i, x := range l {
		equal(t, "what was handed in is untouched", x.No == i+1 && untouched(x.Page, pages[i]), true)
	}
	equal(t, "the spare room", text(spare[len(l)].Page), text(L("spare")))
	shadows(t, v, 2, 6, 0)
	drops(t, v, 6, 0)
	v.Undo(0)
	equalLists(t, "the counts that were handed in", counts, []int{1, 2, 1, 2, 1, 0})
	for _, x := range l {
		spoil(x.Page)
	}
	clear(spare)
	clear(counts[:cap(counts)])
	equal(t, "behind spoiling it", look(v), before)
}

// answered is a page that a call answered, and from which call.
type answered struct {
	from string
	p    api.Page
}

// answers is what Read, Take and Pages answer of one page, which stands on several,
// and the vault behind that.
func answers(t *testing.T, p api.Page) (*vault.Vault, []answered) {
	t.Helper()
	v := load(t, 9, []int{3, 9 - 4, 9 - 4, 1, 0, 0, 0}, p, L("x"), L("y"), p)
	var list []answered
	add := func(from string, p api.Page, e api.Errno) {
		equal(t, from, e, 0)
		list = append(list, answered{from, p})
	}
	shadows(t, v, 1, 5, 0)
	shadows(t, v, 5, 5, 0)
	makes(t, v, p, 6, 0)
	makes(t, v, L("w"), 7, 0)
	writes(t, v, 7, p, 0)
	for _, n := range []int{1, 1, 4, 5, 6, 7} {
		q, e := v.Read(n)
		add("Read", q, e)
	}
	for _, n := range []int{1, 6, 4} { // of a shared one, of one that is Free then, and of one that is Pending then
		q, e := v.Take(n)
		add("Take", q, e)
	}
	for _, state := range []int{held, fresh, pending, held} {
		walk := v.Pages(state)
		for range 2 {
			for n, q := range walk {
				if n != 2 && n != 3 {
					add("Pages", q, 0)
				}
			}
		}
	}
	return v, list
}

// What is answered is new memory each time.
func TestP11_14AnswersAreCopies(t *testing.T) {
	for _, p := range ofEachKind() {
		v, list := answers(t, p)
		before := look(v)
		for i, a := range list {
			equal(t, a.from, text(a.p), text(p))
			spoil(a.p)
			for _, b := range list[i+1:] {
				equal(t, b.from+" behind spoiling what "+a.from+" told", text(b.p), text(p))
			}
			equal(t, "the vault", look(v), before)
		}
		// What stands there to be undone is not shared either.
		equal(t, "Undo(0)", v.Undo(0), true)
		reads(t, v, 1, p, 0)
		reads(t, v, 4, p, 0)
		equalLists(t, "Counts", v.Counts(), []int{3, 5, 5, 1, 0, 0, 0})
	}
}

// What was answered stays, whatever is done later.
func TestP11_14AnswersStay(t *testing.T) {
	for _, p := range ofEachKind() {
		v, list := answers(t, p)
		for _, c := range []call{wr(7, L("other")), dr(5), mk(L("more")), mk(L("more")), un(3), wr(5, B(0)), settle(), mk(L("more")), dr(4), settle(), mk(L("more"))} {
			c.on(v)
		}
		for _, a := range list {
			equal(t, a.from, text(a.p), text(p))
		}
	}
}

// No two lists of one answer share memory, not even in their spare room.
func TestP11_14ListsOfOneAnswer(t *testing.T) {
	lists := func(p api.Page) [][]byte {
		all := [][]byte{p.Data[:cap(p.Data)]}
		for _, it := range p.Items {
			all = append(all, it.Key[:cap(it.Key)], it.Value[:cap(it.Value)])
		}
		return all
	}
	for _, p := range ofEachKind() {
		_, list := answers(t, p)
		for _, a := range list {
			all := lists(a.p)
			for i := range all {
				for k := range all[i] {
					all[i][k] = byte(i)
				}
			}
			for i := range all {
				equal(t, a.from, bytes.Count(all[i], []byte{byte(i)}), len(all[i]))
			}
		}
	}
}

// A list that is handed in twice, or within one page at two places, is not one.
func TestP11_14SharedListsHandedIn(t *testing.T) {
	p := V(1, 2)
	key := []byte("ab")
	p.Items[0].Key, p.Items[0].Value, p.Items[0].Size = key[:1], key[1:], 1
	want := text(p)
	v := newVault(t, 2, 2)
	makes(t, v, p, 1, 0)
	makes(t, v, p, 2, 0)
	q, _ := v.Read(1)
	_ = append(q.Items[0].Key, 'z')
	q.Items[0].Key[0] = 'y'
	equal(t, "the value beside the key", string(q.Items[0].Value), "b")
	s, _ := v.Read(1)
	equal(t, "the other answer", text(s), want)
	s, _ = v.Read(2)
	equal(t, "the other page", text(s), want)
}

// Counts is new memory each time, its spare room included.
func TestP11_14CountsIsNewMemory(t *testing.T) {
	v := fourStates(t)
	before := look(v)
	a, b := v.Counts(), v.Counts()
	a = a[:cap(a)]
	for i := range a {
		a[i] = -77
	}
	equalLists(t, "another answer", b, []int{1, 0, 1, 0, 2, 0, 2, 0})
	equal(t, "the vault", look(v), before)
	makes(t, v, L("x"), 4, 0)
	equalLists(t, "what was answered before", b, []int{1, 0, 1, 0, 2, 0, 2, 0})
}

// R3: nil and an empty list are the same, inside of pages too.
func TestR3NilAndEmpty(t *testing.T) {
	p := L("a")
	p.Data, p.Items[0].Value = []byte{}, []byte{}
	b := api.Page{Kind: blobKind, Items: []api.Item{}, Data: []byte{7}}
	v := newVault(t, 2, 2)
	makes(t, v, p, 1, 0)
	makes(t, v, b, 2, 0)
	reads(t, v, 1, L("a"), 0)
	reads(t, v, 2, B(0), 0)
	writes(t, v, 1, b, 0)
	reads(t, v, 1, B(0), 0)
}

// Beside an error every other result is the zero value of its type, and no list is
// there at all.
func TestR2NothingBesideAnError(t *testing.T) {
	v := fourStates(t)
	for _, n := range []int{-1, 0, 2, 4, 9} {
		p, e := v.Read(n)
		q, f := v.Take(n)
		if e != errPage || f != errPage || text(p) != text(api.Page{}) || text(q) != text(api.Page{}) || p.Items != nil || q.Items != nil || p.Data != nil || q.Data != nil {
			t.Fatalf("%d: %v, %d; %v, %d", n, p, e, q, f)
		}
	}
	v = wants(t, N(3, 3))
	if p, e := v.Take(1); e != errRefs || text(p) != text(api.Page{}) || p.Items != nil || p.Data != nil {
		t.Fatalf("Take: %v, %d", p, e)
	}
}
