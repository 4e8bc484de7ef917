package blob_test

import (
	"bytes"
	"fmt"
	"testing"

	"coppice/api"
	"coppice/blob"
	"coppice/draw"
	"coppice/view"
)

// A Size that no value has, whatever else the item says.
func TestP13_3NoSize(t *testing.T) {
	v := vaultOf(t, B(480, 2), B(20, 0), B(33, 0))
	unchanged(t, v, func() {
		for _, size := range []int{least, least + 1, -1 << 32, -500, -33, -32, -1, maxValue + 1, maxValue + 2, 1<<16 + 500, 1<<32 + 5, 1<<32 + 500, greatest} {
			for child := range 4 {
				for _, value := range [][]byte{nil, {}, value(1), value(5), value(32), value(500), value(maxValue + 1)} {
					loadsNot(t, v, api.Item{Key: []byte("k"), Value: value, Child: child, Size: size}, errValue)
				}
			}
		}
	})
}

// Short values: just as many bytes as Size says.
func TestP13_3Short(t *testing.T) {
	v := vaultOf(t, B(32, 0), B(33, 0))
	unchanged(t, v, func() {
		for size := 0; size <= inline; size++ {
			for has := 0; has <= inline+2; has++ {
				i := api.Item{Key: []byte("k"), Value: value(has), Size: size}
				if has == size {
					loads(t, v, i, value(has))
				} else {
					loadsNot(t, v, i, errValue)
				}
			}
		}
		loadsNot(t, v, api.Item{Value: value(maxValue), Size: 0}, errValue)
		loadsNot(t, v, api.Item{Value: value(1 << 16), Size: 0}, errValue)
		loadsNot(t, v, api.Item{Value: value(256 + 5), Size: 5}, errValue)
	})
}

// What is not looked at: the Key; Child of a short value; Value of a long one.
func TestP13_3NotLookedAt(t *testing.T) {
	v := vaultOf(t, B(480, 2), B(20, 0), L("leaf"))
	want := append(value(480), value(20)...)
	for _, key := range [][]byte{nil, {}, {0}, make([]byte, maxKey), make([]byte, maxKey+1), make([]byte, 1000)} {
		for _, child := range []int{least, -1, 0, 1, 2, 3, 4, 65537, greatest} {
			loads(t, v, api.Item{Key: key, Value: value(7), Size: 7, Child: child}, value(7))
			loads(t, v, api.Item{Key: key, Value: value(inline), Size: inline, Child: child}, value(inline))
			loads(t, v, api.Item{Key: key, Child: child}, nil)
		}
		for _, has := range []int{0, 1, 32, 33, 500, 501, maxValue + 1} {
			loads(t, v, api.Item{Key: key, Value: value(has), Size: 500, Child: 1}, want)
		}
	}
}

// Long values: each page with the bytes that stand there.
func TestP13_3Long(t *testing.T) {
	for n := inline + 1; n <= maxValue; n++ {
		var pages []api.Page
		for at := 0; at < n; at += chunk {
			next := len(pages) + 2
			if at+chunk >= n {
				next = 0
			}
			pages = append(pages, api.Page{Kind: blobKind, Data: value(n)[at:min(at+chunk, n)], Next: next})
		}
		v := vaultOf(t, pages...)
		loads(t, v, long(n, 1), value(n))
		if n%97 == 0 {
			unchanged(t, v, func() { loads(t, v, long(n, 1), value(n)) })
		}
	}
}

// The pages of a value may lie anywhere, in any state in which they can be read.
func TestP13_3AnyPlace(t *testing.T) {
	v := vaultOf(t, B(3, 0), api.Page{}, B(480, 1), L("x"), B(480, 3))
	if n, e := v.Make(B(480, 5)); n != 2 || e != 0 {
		t.Fatal(n, e)
	}
	want := bytes.Join([][]byte{value(480), value(480), value(480), value(3)}, nil)
	loads(t, v, long(1443, 2), want)
	loads(t, v, long(963, 5), want[480:])
	loads(t, v, long(483, 3), want[960:])
	equal(t, "Keep", v.Keep(3), 0)
	loads(t, v, long(1443, 2), want)
}

// Pages that cannot be read: there is none of that number, or it is Free or Pending.
func TestP13_3NoPage(t *testing.T) {
	v := vaultOf(t, B(480, 2), B(480, 3), B(100, 0), B(100, 0), api.Page{}, B(480, 5), B(480, 4), B(480, 65536), L("a"), N(1, 2), B(480, 9), B(480, 10))
	equal(t, "Drop", v.Drop(4), 0)
	equal(t, "State", v.State(4), pending)
	equal(t, "State", v.State(5), free)
	unchanged(t, v, func() {
		for _, size := range []int{33, 100, 480, 481, 580, 960, 961, maxValue} {
			for _, n := range []int{least, -65536, -1, 0, 4, 5, 13, 65536, 65537, 1<<32 + 1, greatest} {
				loadsNot(t, v, long(size, n), errPage)
			}
			loadsNot(t, v, long(size, 9), errPage)
			loadsNot(t, v, long(size, 10), errPage)
		}
		for _, size := range []int{481, 580, 960, 961, maxValue} {
			for _, n := range []int{6, 7, 8, 11, 12} { // they lead to what is Free, Pending, no page, a leaf, an index
				loadsNot(t, v, long(size, n), errPage)
			}
		}
	})
}

// A last page with fewer or more bytes than are lacking, and one that is not the last
// with fewer than there is room for.
func TestP13_3Bytes(t *testing.T) {
	for has := 1; has <= chunk; has++ {
		v := vaultOf(t, B(has, 0), B(480, 1), B(has, 1))
		for size := inline + 1; size <= chunk; size++ {
			if size == has {
				loads(t, v, long(size, 1), value(has))
			} else {
				loadsNot(t, v, long(size, 1), errForm)
			}
		}
		for lacking := 1; lacking <= chunk; lacking++ {
			if lacking == has {
				loads(t, v, long(chunk+lacking, 2), append(value(chunk), value(has)...))
			} else {
				loadsNot(t, v, long(chunk+lacking, 2), errForm)
			}
		}
		if has < chunk {
			loadsNot(t, v, long(max(has+has, inline+1), 3), errForm)
			loadsNot(t, v, long(chunk+has, 3), errForm)
		}
	}
}

// A row of pages that ends too early, or goes on too far; and rings.
func TestP13_3EndsAndRings(t *testing.T) {
	v := vaultOf(t, B(480, 0), B(480, 1), B(480, 2), B(480, 4), B(480, 6), B(480, 5), B(100, 7), B(480, 7), B(40, 1))
	unchanged(t, v, func() {
		loads(t, v, long(480, 1), value(480))
		loads(t, v, long(960, 2), append(value(480), value(480)...))
		for _, size := range []int{481, 500, 960, 961, maxValue} {
			loadsNot(t, v, long(size, 1), errForm) // it ends
		}
		for _, size := range []int{961, 1000, 1440, maxValue} {
			loadsNot(t, v, long(size, 2), errForm)
		}
		loadsNot(t, v, long(480, 2), errForm) // it goes on
		loadsNot(t, v, long(480, 3), errForm)
		loadsNot(t, v, long(960, 3), errForm)
		loadsNot(t, v, long(40, 9), errForm)
		for size := inline + 1; size <= maxValue; size++ {
			for _, ring := range []int{4, 5, 6, 7, 8} {
				loadsNot(t, v, long(size, ring), errForm)
			}
		}
	})
}

// The first page at which something is wrong tells, whatever is wrong behind it.
func TestP13_3TheFirstFaultTells(t *testing.T) {
	faults := map[string]struct {
		p    api.Page
		want api.Errno
	}{
		"free":       {api.Page{}, errPage},
		"leaf":       {L("a"), errPage},
		"index":      {N(1, 2), errPage},
		"few bytes":  {B(479, -1), errForm},
		"one byte":   {B(1, -1), errForm},
		"ends":       {B(480, 0), errForm},
		"few, ends":  {B(7, 0), errForm},
		"goes wrong": {B(480, 60000), errPage}, // there is no such page: the next one tells
	}
	for what, fault := range faults {
		for behind, other := range faults {
			for at := range 6 {
				v := vaultOf(t, rowWith(at, fault.p, other.p)...)
				unchanged(t, v, func() {
					_, e := blob.Load(v, long(maxValue, 1))
					equal(t, fmt.Sprintf("%s on page %d, %s behind it", what, at+1, behind), e, fault.want)
				})
			}
		}
	}
}

// rowWith is the pages of a value of MaxValue bytes with two others from a place on,
// each of which leads to the next one, if its Next is -1.
func rowWith(at int, others ...api.Page) []api.Page {
	pages := make([]api.Page, maxValue/chunk)
	for k := range pages {
		pages[k] = B(chunk, k+2)
	}
	pages[len(pages)-1].Next = 0
	for k, p := range others {
		if p.Next == -1 {
			p.Next = at + k + 2
		}
		pages[at+k] = p
	}
	return pages
}

// modelLoad is Load as the promise tells it, word for word, over pages from 1 on, all of
// which can be read but for the zero ones.
func modelLoad(pages []api.Page, i api.Item) ([]byte, api.Errno) {
	if i.Size < 0 || i.Size > maxValue {
		return nil, errValue
	}
	if i.Size <= inline {
		if len(i.Value) != i.Size {
			return nil, errValue
		}
		return i.Value, 0
	}
	var b []byte
	for n := i.Child; len(b) < i.Size; {
		if n < 1 || n > len(pages) || pages[n-1].Kind != blobKind {
			return nil, errPage
		}
		p, lacking := pages[n-1], i.Size-len(b)
		if lacking < chunk && len(p.Data) != lacking || lacking >= chunk && len(p.Data) != chunk {
			return nil, errForm
		}
		b = append(b, p.Data...)
		if p.Next == 0 && len(b) < i.Size || p.Next != 0 && len(b) == i.Size {
			return nil, errForm
		}
		n = p.Next
	}
	return b, 0
}

// somePages is pages that lead anywhere, most of them full.
func somePages(r *draw.Numbers) []api.Page {
	pages := make([]api.Page, 1+r.Below(9))
	for k := range pages {
		next := []int{0, k, k, k + 2, 1 + r.Below(len(pages)), 1 + r.Below(len(pages)+1)}[r.Below(6)]
		switch r.Below(12) {
		case 0:
		case 1:
			pages[k] = L("a")
		case 2:
			pages[k] = N(1, 1)
		case 3, 4, 5:
			pages[k] = api.Page{Kind: blobKind, Data: r.Bytes(1 + r.Below(chunk)), Next: next}
		default:
			pages[k] = api.Page{Kind: blobKind, Data: r.Bytes(chunk), Next: next}
		}
	}
	return pages
}

// Any item over any pages, held against the model.
func TestP13_3AnyPages(t *testing.T) {
	r, met := draw.Numbers(133), map[api.Errno]int{}
	for range 4000 {
		pages := somePages(&r)
		v := vaultOf(t, pages...)
		before, mark := view.Vault(v), v.Mark()
		for range 30 {
			at := r.Below(len(pages))
			rest := len(pages[r.Below(len(pages))].Data)
			i := api.Item{Key: r.Bytes(r.Below(3)), Value: r.Bytes(r.Below(40)), Child: at + 1, Size: r.Below(5)*chunk + rest}
			switch r.Below(10) {
			case 0:
				i.Size = r.Below(maxValue+40) - 20
			case 1:
				i.Size = len(i.Value)
			case 2:
				i.Child = r.Below(len(pages)+3) - 1
			}
			want, wantE := modelLoad(pages, i)
			got, e := blob.Load(v, i)
			if e != wantE || !bytes.Equal(got, want) || e != 0 && got != nil {
				t.Fatalf("Load(%s) = %d bytes, %d; want %d bytes, %d: %s", view.Item(i), len(got), e, len(want), wantE, before)
			}
			met[e]++
			if e == 0 && len(got) > chunk {
				met[-1]++
			}
		}
		equal(t, "the vault", view.Vault(v), before)
		equal(t, "Mark", v.Mark(), mark)
	}
	for _, e := range []api.Errno{-1, 0, errForm, errValue, errPage} {
		if met[e] < 300 {
			t.Errorf("%d was met %d times", e, met[e])
		}
	}
}
