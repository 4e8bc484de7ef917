package node_test

import (
	"bytes"
	"fmt"
	"slices"
	"testing"

	"coppice/api"
	"coppice/node"
)

// mark fills the spare room of lists.
const mark = 0xC3

// room is the bytes with spare room behind them, all of it marked.
func room(b []byte) []byte {
	all := append(slices.Clone(b), bytes.Repeat([]byte{mark}, 40)...)
	return all[:len(b)]
}

// marked: is the spare room of room as it was?
func marked(b []byte) bool {
	return bytes.Equal(b[len(b):len(b)+40], bytes.Repeat([]byte{mark}, 40))
}

func roomyItem(i api.Item) api.Item {
	i.Key, i.Value = room(i.Key), room(i.Value)
	return i
}

// markedItem stands in the spare room of lists of items.
func markedItem() api.Item {
	return roomyItem(api.Item{Key: []byte("zz"), Value: []byte("zz"), Size: 2, Child: 99})
}

// roomy is the page with spare room behind each of its lists.
func roomy(p api.Page) api.Page {
	items := []api.Item{}
	for _, i := range p.Items {
		items = append(items, roomyItem(i))
	}
	for range 10 {
		items = append(items, markedItem())
	}
	p.Items, p.Data = items[:len(p.Items)], room(p.Data)
	return p
}

// untouched: are the page and all of its spare room as they were?
func untouched(p, was api.Page) bool {
	same := text(p) == text(was) && marked(p.Data)
	for _, i := range p.Items[:len(p.Items)+10] {
		same = same && marked(i.Key) && marked(i.Value)
	}
	for _, i := range p.Items[len(p.Items) : len(p.Items)+10] {
		same = same && itemText(i) == itemText(markedItem())
	}
	return same
}

// turn turns all bytes of a list, its spare room too.
func turn(b []byte) {
	b = b[:cap(b)]
	for i := range b {
		b[i] ^= 0xA5
	}
}

// spoil turns all that a page has, its spare room too.
func spoil(p api.Page) {
	turn(p.Data)
	all := p.Items[:cap(p.Items)]
	for _, i := range all {
		turn(i.Key)
		turn(i.Value)
	}
	for n := range all {
		all[n] = api.Item{Child: -99}
	}
}

// answer is what a call answers: pages, and bytes.
type answer struct {
	pages []api.Page
	sep   []byte
	ok    bool
}

func (a answer) text() string {
	s := fmt.Sprintf("%x %v", a.sep, a.ok)
	for _, p := range a.pages {
		s += " | " + text(p)
	}
	return s
}

// calls is each call that answers pages, on what it is handed: two pages, an item and
// bytes.
var calls = map[string]func(p, q api.Page, i api.Item, sep []byte) answer{
	"Insert": func(p, q api.Page, i api.Item, sep []byte) answer {
		a, ok := node.Insert(p, 1, i)
		return answer{[]api.Page{a}, nil, ok}
	},
	"Insert at the end": func(p, q api.Page, i api.Item, sep []byte) answer {
		a, ok := node.Insert(p, len(p.Items), i)
		return answer{[]api.Page{a}, nil, ok}
	},
	"Replace": func(p, q api.Page, i api.Item, sep []byte) answer {
		a, ok := node.Replace(p, 0, i)
		return answer{[]api.Page{a}, nil, ok}
	},
	"Remove": func(p, q api.Page, i api.Item, sep []byte) answer {
		a, ok := node.Remove(p, 0)
		return answer{[]api.Page{a}, nil, ok}
	},
	"Remove the last": func(p, q api.Page, i api.Item, sep []byte) answer {
		a, ok := node.Remove(p, len(p.Items)-1)
		return answer{[]api.Page{a}, nil, ok}
	},
	"Split": func(p, q api.Page, i api.Item, sep []byte) answer {
		a, b, s, ok := node.Split(p)
		return answer{[]api.Page{a, b}, s, ok}
	},
	"Join": func(p, q api.Page, i api.Item, sep []byte) answer {
		a, ok := node.Join(p, q, sep)
		return answer{[]api.Page{a}, nil, ok}
	},
	"Lend to the left": func(p, q api.Page, i api.Item, sep []byte) answer {
		a, b, s, ok := node.Lend(p, q, sep, false)
		return answer{[]api.Page{a, b}, s, ok}
	},
	"Lend to the right": func(p, q api.Page, i api.Item, sep []byte) answer {
		a, b, s, ok := node.Lend(p, q, sep, true)
		return answer{[]api.Page{a, b}, s, ok}
	},
}

// handed is pages of both kinds, of few items, of eight, of one and of none, each with
// all lists that there are.
func handed() [][2]api.Page {
	var l [][2]api.Page
	for _, kind := range []int{leafKind, indexKind, blobKind} {
		for _, n := range []int{0, 1, 2, 4, 7, most, most + 1} {
			for _, m := range []int{1, 4} {
				p, q := odd(some(kind, n)), odd(some(kind, m))
				for i := range q.Items {
					q.Items[i].Key = append([]byte("q"), q.Items[i].Key...)
				}
				l = append(l, [2]api.Page{p, q})
			}
		}
	}
	return l
}

// What is handed in is not changed, and not kept: what was answered stays as it is,
// when it is spoiled.
func TestR4HandedIn(t *testing.T) {
	i, met := api.Item{Key: []byte("new"), Value: []byte("value"), Size: 5, Child: 3}, map[string]int{}
	for what, call := range calls {
		for _, c := range handed() {
			p, q, item, sep := roomy(c[0]), roomy(c[1]), roomyItem(i), room([]byte("sep"))
			a := call(p, q, item, sep)
			was := a.text()
			same := untouched(p, c[0]) && untouched(q, c[1]) && itemText(item) == itemText(i) && marked(item.Key) && marked(item.Value) && string(sep) == "sep" && marked(sep)
			equal(t, what+" changes nothing", same, true)
			spoil(p)
			spoil(q)
			turn(item.Key)
			turn(item.Value)
			turn(sep)
			equal(t, what+" keeps nothing", a.text(), was)
			if a.ok {
				met[what]++
			}
		}
	}
	for what := range calls {
		if met[what] < 2 {
			t.Fatalf("too few answers of %s: %v", what, met)
		}
	}
}

// An answer that is spoiled changes neither what was handed in nor another answer.
func TestR4Answers(t *testing.T) {
	i := api.Item{Key: []byte("new"), Value: []byte("value"), Size: 5, Child: 3}
	for what, call := range calls {
		for _, c := range handed() {
			p, q, item, sep := roomy(c[0]), roomy(c[1]), roomyItem(i), room([]byte("sep"))
			a, b := call(p, q, item, sep), call(p, q, item, sep)
			was := b.text()
			for _, x := range a.pages {
				spoil(x)
			}
			turn(a.sep)
			same := untouched(p, c[0]) && untouched(q, c[1]) && itemText(item) == itemText(i) && marked(item.Key) && marked(item.Value) && string(sep) == "sep" && marked(sep)
			equal(t, what+": what was handed in", same, true)
			equal(t, what+": another answer", b.text(), was)
		}
	}
}

// lists is all lists of bytes of an answer.
func lists(a answer) [][]byte {
	l := [][]byte{a.sep}
	for _, p := range a.pages {
		l = append(l, p.Data)
		for _, i := range p.Items {
			l = append(l, i.Key, i.Value)
		}
	}
	return l
}

// No two lists of one answer share any memory: spoiling one leaves all others, though
// what was handed in shared its own.
func TestR4ListsOfOneAnswer(t *testing.T) {
	all := []byte("abcdefghijklmnopqrstuvwxyz")
	for what, call := range calls {
		for _, c := range handed() {
			p, q := copyOf(c[0]), copyOf(c[1])
			for _, x := range []api.Page{p, q} {
				for n := range x.Items {
					x.Items[n].Key, x.Items[n].Value = all[n:n+2], all[n:n+2]
				}
			}
			for n := range q.Items {
				q.Items[n].Key, q.Items[n].Value = all[12+n:14+n], all[12+n:14+n]
			}
			p.Data, q.Data = all[:3], all[:3]
			a := call(p, q, api.Item{Key: all[:2], Value: all[:2]}, all[:2])
			for k, x := range lists(a) {
				var before []string
				for _, y := range lists(a) {
					before = append(before, string(y[:cap(y)]))
				}
				turn(x)
				for m, y := range lists(a) {
					if m != k && string(y[:cap(y)]) != before[m] {
						t.Fatalf("%s: lists %d and %d of one answer share memory", what, k, m)
					}
				}
			}
			if len(a.pages) == 2 {
				was := text(a.pages[1])
				spoil(a.pages[0])
				equal(t, what+": the items of the other page", text(a.pages[1]), was)
			}
		}
	}
	equal(t, "what was handed in", string(all), "abcdefghijklmnopqrstuvwxyz")
}

// Search and Route change nothing.
func TestR4SearchAndRoute(t *testing.T) {
	for _, c := range handed() {
		p, key := roomy(c[0]), room([]byte("k003"))
		node.Search(p, key)
		node.Route(p, key)
		equal(t, "untouched", untouched(p, c[0]) && string(key) == "k003" && marked(key), true)
	}
}

// nil and an empty list are the same.
func TestR3Lists(t *testing.T) {
	for _, kind := range kinds {
		none, empty := api.Page{Kind: kind}, api.Page{Kind: kind, Items: []api.Item{}, Data: []byte{}}
		for what, call := range calls {
			i := api.Item{Key: []byte("a")}
			if what == "Insert" {
				continue
			}
			q := some(kind, 3)
			equal(t, what, call(none, q, i, nil).text(), call(empty, q, i, []byte{}).text())
			equal(t, what, call(q, none, i, nil).text(), call(q, empty, i, []byte{}).text())
		}
		search(t, empty, "a", 0, false)
		route(t, empty, "a", 0)
	}
	p, q := leaf("-", "b"), leaf("-", "b")
	p.Items[0].Key, q.Items[0].Key = nil, []byte{}
	equal(t, "keys of no byte", fmt.Sprint(node.Search(p, []byte{})), fmt.Sprint(node.Search(q, nil)))
}

// With false each other result is the zero value.
func TestR2False(t *testing.T) {
	met := 0
	for what, call := range calls {
		for _, c := range handed() {
			a := call(c[0], c[1], api.Item{}, []byte("m"))
			if a.ok {
				continue
			}
			met++
			equal(t, what+": no bytes", a.sep == nil, true)
			for _, p := range a.pages {
				equal(t, what+": no page", text(p) == zero && p.Items == nil && p.Data == nil, true)
			}
		}
	}
	if met < 50 {
		t.Fatalf("too few were refused: %d", met)
	}
}
