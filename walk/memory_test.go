package walk_test

import (
	"bytes"
	"fmt"
	"slices"
	"strings"
	"testing"

	"coppice/api"
	"coppice/draw"
	"coppice/grove"
	"coppice/vault"
	"coppice/view"
	"coppice/walk"
)

// mark fills the spare room of rows; so many bytes of it there are.
const mark, spare = 0xC3, 40

// room is the row with spare room behind it, all of it marked.
func room(b []byte) []byte {
	return append(slices.Clone(b), bytes.Repeat([]byte{mark}, spare)...)[:len(b)]
}

// untouched: are a row of room and its spare room as they were?
func untouched(b, was []byte) bool {
	return bytes.Equal(b, was) && bytes.Equal(b[len(b):len(b)+spare], bytes.Repeat([]byte{mark}, spare))
}

// turn turns all bytes of a row, its spare room too.
func turn(b []byte) {
	b = b[:cap(b)]
	for k := range b {
		b[k] ^= 0xA5
	}
}

// answer is what a call answers: rows, and lists of numbers.
type answer struct {
	rows    [][]byte
	numbers [][]int
	pairs   [][]api.Pair
}

func (a answer) text() string {
	var s strings.Builder
	for _, b := range a.rows {
		fmt.Fprintf(&s, "%x;", b)
	}
	for _, l := range a.pairs {
		for _, x := range l {
			fmt.Fprintf(&s, "%x=%x;", x.Key, x.Value)
		}
	}
	return s.String() + fmt.Sprint(a.numbers)
}

// all is all rows of an answer, those of its pairs too.
func (a answer) all() [][]byte {
	l := slices.Clone(a.rows)
	for _, pairs := range a.pairs {
		for _, x := range pairs {
			l = append(l, x.Key, x.Value)
		}
	}
	return l
}

// spoil writes over all of an answer, and over all spare room.
func (a answer) spoil() {
	for _, b := range a.all() {
		turn(b)
	}
	for _, l := range a.numbers {
		l = l[:cap(l)]
		for k := range l {
			l[k] = -7
		}
	}
	for _, l := range a.pairs {
		clear(l[:cap(l)])
	}
}

// call is a call with two rows as arguments: a key, or the ends of a range.
type call func(v *vault.Vault, tree api.Tree, x, y []byte) answer

// calls is each call that answers memory, and in each way that it takes a range.
func calls() map[string]call {
	pair := func(x api.Pair, _ bool, _ api.Errno) answer { return answer{rows: [][]byte{x.Key, x.Value}} }
	return map[string]call{
		"Get": func(v *vault.Vault, tree api.Tree, x, _ []byte) answer {
			b, _, _ := walk.Get(v, tree, x)
			return answer{rows: [][]byte{b}}
		},
		"Ceil":  func(v *vault.Vault, tree api.Tree, x, _ []byte) answer { return pair(walk.Ceil(v, tree, x)) },
		"Floor": func(v *vault.Vault, tree api.Tree, x, _ []byte) answer { return pair(walk.Floor(v, tree, x)) },
		"Path": func(v *vault.Vault, tree api.Tree, x, _ []byte) answer {
			l, _ := walk.Path(v, tree, x)
			return answer{numbers: [][]int{l}}
		},
		"List": func(v *vault.Vault, tree api.Tree, x, y []byte) answer {
			l, _ := walk.List(v, tree, api.Range{Lo: x, Hi: y})
			return answer{pairs: [][]api.Pair{l}}
		},
		"List, open": func(v *vault.Vault, tree api.Tree, x, y []byte) answer {
			l, _ := walk.List(v, tree, api.Range{Lo: x, Hi: y, Open: true})
			return answer{pairs: [][]api.Pair{l}}
		},
		"Scan": func(v *vault.Vault, tree api.Tree, x, y []byte) answer {
			return answer{pairs: [][]api.Pair{told(walk.Scan(v, tree, api.Range{Lo: x, Hi: y}))}}
		},
		"Back": func(v *vault.Vault, tree api.Tree, x, y []byte) answer {
			return answer{pairs: [][]api.Pair{told(walk.Back(v, tree, api.Range{Lo: x, Hi: y, Open: true}))}}
		},
		"Check": func(v *vault.Vault, tree api.Tree, _, _ []byte) answer {
			walk.Check(v, tree)
			return answer{}
		},
	}
}

// What is handed in is neither changed nor kept, and an answer is new memory: it shares
// none with an argument, with the vault, nor with another answer.
func TestP14_7HandedInAndOut(t *testing.T) {
	r := draw.Numbers(159)
	for _, g := range grove.Trees(&r, 3) {
		v, rows := heldPages(t, g.Pages...), g.Rows(&r, 8)
		seen := view.Vault(v)
		for k := range 40 {
			a, b := rows[r.Below(len(rows))], rows[r.Below(len(rows))]
			if k < 10 && len(g.Pairs) > 0 { // a key that is there
				a = g.Pairs[r.Below(len(g.Pairs))].Key
			}
			for what, call := range calls() {
				x, y := room(a), room(b)
				one, other := call(v, g.Tree, x, y), call(v, g.Tree, x, y)
				equal(t, what+": what was handed in", untouched(x, a) && untouched(y, b), true)
				want := other.text()
				equal(t, what+": the same answer", one.text(), want)
				one.spoil()
				equal(t, what+": what was handed in, behind it", untouched(x, a) && untouched(y, b), true)
				equal(t, what+": another answer", other.text(), want)
				turn(x)
				turn(y)
				equal(t, what+": the answer, its arguments spoiled", other.text(), want)
				equal(t, what+": asked again", call(v, g.Tree, room(a), room(b)).text(), want)
			}
		}
		equal(t, "the vault", view.Vault(v), seen)
	}
}

// No two rows of one answer share memory.
func TestP14_7RowsOfOneAnswer(t *testing.T) {
	r := draw.Numbers(160)
	for _, g := range grove.Trees(&r, 2) {
		v := heldPages(t, g.Pages...)
		for what, call := range calls() {
			for _, row := range [][]byte{nil, []byte("a"), []byte("m")} {
				l := call(v, g.Tree, row, []byte{0xff}).all()
				want := make([][]byte, len(l))
				for k, b := range l {
					want[k] = bytes.Clone(b)
				}
				for k, b := range l {
					turn(b)
					for n := range l {
						if n != k && !bytes.Equal(l[n], want[n]) {
							t.Fatalf("%s: row %d lies in row %d", what, n, k)
						}
					}
					turn(b)
				}
			}
		}
	}
}

// What a walk tells is new memory each time: when it is written over, neither what comes
// behind it is seen to change, nor the next time, nor another one's walk.
func TestP14_7Walks(t *testing.T) {
	r := draw.Numbers(161)
	for _, g := range grove.Trees(&r, 3) {
		v := heldPages(t, g.Pages...)
		seen := view.Vault(v)
		lo, hi := room(nil), room([]byte{0xff})
		rg := api.Range{Lo: lo, Hi: hi}
		want := g.List(rg)
		walks := []asked{{"Scan", walk.Scan(v, g.Tree, rg), want}, {"Back", walk.Back(v, g.Tree, rg), turned(want)}}
		turn(lo) // a walk keeps nothing of its range
		turn(hi)
		for _, a := range walks {
			kept := told(a.walk)
			for range 2 {
				at := 0
				for k, x := range a.walk {
					equal(t, a.what, samePair(api.Pair{Key: k, Value: x}, a.want[at]), true)
					turn(k)
					equal(t, a.what+", its value", bytes.Equal(x, a.want[at].Value), true)
					turn(x)
					at++
				}
				equal(t, a.what, at, len(a.want))
			}
			equalPairs(t, a.what+", another time", kept, a.want)
		}
		equal(t, "the vault", view.Vault(v), seen)
	}
}

// nil and an empty list are the same, and so is any spare room; Hi of an Open range does
// not matter.
func TestR3R5Lists(t *testing.T) {
	v, tree := two(t)
	nobody := [][]byte{nil, {}, room(nil)}
	for _, lo := range nobody {
		for _, hi := range nobody {
			lists(t, v, tree, api.Range{Lo: lo, Hi: hi}, nil)
			equal(t, "List", words(told(walk.Scan(v, tree, api.Range{Lo: lo, Hi: hi, Open: true}))), "a aa, c cc, e ee, g gg, m mm, p pp, r rr, t tt, v vv")
		}
		gets(t, v, tree, lo, nil, false, errKey)
		ceils(t, v, tree, lo, api.Pair{Key: []byte("a"), Value: []byte("aa")})
		floors(t, v, tree, lo)
		leads(t, v, tree, lo, 3, 1)
	}
	for x := range 256 {
		row := []byte{byte(x)}
		for what, call := range calls() {
			equal(t, what, call(v, tree, row, []byte("p")).text(), call(v, tree, room(row), room([]byte("p"))).text())
		}
	}
}
