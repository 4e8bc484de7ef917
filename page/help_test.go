package page_test

import (
	"bytes"
	"encoding/binary"
	"hash/crc32"
	"math"
	"slices"
	"testing"

	"coppice/api"
	"coppice/draw"
	"coppice/page"
)

// The calls have just these types.
var (
	_ func(api.Page) api.Errno                     = page.Check
	_ func(int, int, api.Page) ([]byte, api.Errno) = page.Encode
	_ func(int, []byte) (api.Page, int, api.Errno) = page.Decode
	_ func(api.Page) []int                         = page.Kids
)

// The limits of the chapter, as numbers.
const (
	mostPages = 65536
	mostGen   = 1 << 40
	greatest  = math.MaxInt
	least     = math.MinInt
)

// noNumbers are no numbers of pages.
var noNumbers = []int{0, -1, -2, -mostPages, mostPages + 1, 2 * mostPages, 1 << 32, 1<<32 + 1, greatest, least, least + 1}

func text(n int) []byte { return bytes.Repeat([]byte("k"), n) }

func near(key, value string) api.Item {
	return api.Item{Key: []byte(key), Value: []byte(value), Size: len(value)}
}

func far(key string, size, child int) api.Item {
	return api.Item{Key: []byte(key), Size: size, Child: child}
}

func to(key string, child int) api.Item { return api.Item{Key: []byte(key), Child: child} }

func leaf(items ...api.Item) api.Page { return api.Page{Kind: 1, Items: items} }

func index(level int, items ...api.Item) api.Page {
	return api.Page{Kind: 2, Level: level, Items: items}
}

func blob(n, next int) api.Page { return api.Page{Kind: 3, Data: text(n), Next: next} }

// leafOf is a leaf of n items, indexOf an index of n.
func leafOf(n int) api.Page {
	p := leaf()
	for i := range n {
		p.Items = append(p.Items, near(string(rune('a'+i)), "x"))
	}
	return p
}

func indexOf(level, n int) api.Page {
	p := index(level)
	for i := range n {
		p.Items = append(p.Items, to(string(rune('a'+i)), i+1))
	}
	if n > 0 {
		p.Items[0].Key = nil
	}
	return p
}

// greatLeaf, greatIndex and greatBlob take as many bytes as one can.
func greatLeaf() api.Page {
	p := leaf()
	for i := range 8 {
		key := bytes.Repeat([]byte{0xFF}, 24)
		key[23] = byte(0xF8 + i)
		p.Items = append(p.Items, api.Item{Key: key, Value: bytes.Repeat([]byte{byte(0xF0 + i)}, 32), Size: 32})
	}
	return p
}

func greatIndex() api.Page {
	p := index(11, api.Item{Child: mostPages})
	for i := range 7 {
		key := bytes.Repeat([]byte{0xFF}, 24)
		key[23] = byte(0xF9 + i)
		p.Items = append(p.Items, api.Item{Key: key, Child: mostPages - i})
	}
	return p
}

func greatBlob() api.Page {
	return api.Page{Kind: 3, Data: bytes.Repeat([]byte{0xFF}, 480), Next: mostPages}
}

// soundPages are pages of all kinds that Check takes.
func soundPages() []api.Page {
	list := []api.Page{
		leaf(near("a", "x")), leaf(far("a", 33, 7)), leaf(near("a", "")), leaf(near("\x00", "\x00"), far("\x00\x00", 3840, mostPages)),
		leaf(far("a", 480, 3), near("b", "x"), far("c", 40, 3)), leafOf(8), greatLeaf(),
		index(1, to("", 2), to("m", 3)), index(11, to("", 1), to("\x00", mostPages), to("\xff", 1)), indexOf(5, 8), greatIndex(),
		blob(1, 0), blob(480, 0), blob(1, mostPages), blob(479, 1), {Kind: 3, Data: []byte{0}}, greatBlob(),
	}
	r := draw.Numbers(71)
	for range 60 {
		list = append(list, somePage(&r))
	}
	return list
}

// somePage is a page that Check takes.
func somePage(r *draw.Numbers) api.Page {
	switch r.Below(3) {
	case 0:
		return leaf(someItems(r, 1+r.Below(8), someValue)...)
	case 1:
		items := someItems(r, 2+r.Below(7), func(r *draw.Numbers, it *api.Item) { it.Child = 1 + r.Below(mostPages) })
		items[0].Key = nil
		return index(1+r.Below(11), items...)
	}
	p := api.Page{Kind: 3, Data: r.Bytes(1 + r.Below(480))}
	if r.Below(2) == 0 {
		p.Next = 1 + r.Below(mostPages)
	}
	return p
}

// someItems are n items with rising keys, no two alike.
func someItems(r *draw.Numbers, n int, fill func(*draw.Numbers, *api.Item)) []api.Item {
	keys := map[string]int{}
	for len(keys) < n {
		keys[string(r.Bytes(1+r.Below(24)))] = 0
	}
	var items []api.Item
	for k := range keys {
		items = append(items, api.Item{Key: []byte(k)})
	}
	slices.SortFunc(items, func(a, b api.Item) int { return bytes.Compare(a.Key, b.Key) })
	for i := range items {
		fill(r, &items[i])
	}
	return items
}

func someValue(r *draw.Numbers, it *api.Item) {
	if r.Below(3) == 0 {
		it.Size, it.Child = 33+r.Below(3808), 1+r.Below(mostPages)
		return
	}
	it.Size = r.Below(33)
	it.Value = r.Bytes(it.Size)
}

// copyOf is the page in memory of its own.
func copyOf(p api.Page) api.Page {
	p.Data = slices.Clone(p.Data)
	p.Items = slices.Clone(p.Items)
	for i := range p.Items {
		p.Items[i].Key = slices.Clone(p.Items[i].Key)
		p.Items[i].Value = slices.Clone(p.Items[i].Value)
	}
	return p
}

// samePages: are they the same, nil being an empty list?
func samePages(p, q api.Page) bool {
	return p.Kind == q.Kind && p.Level == q.Level && p.Next == q.Next && bytes.Equal(p.Data, q.Data) && slices.EqualFunc(p.Items, q.Items, sameItems)
}

func sameItems(a, b api.Item) bool {
	return bytes.Equal(a.Key, b.Key) && bytes.Equal(a.Value, b.Value) && a.Child == b.Child && a.Size == b.Size
}

// modelCheck is P7.1 word by word.
func modelCheck(p api.Page) api.Errno {
	isLeaf, isIndex, isBlob := p.Kind == 1, p.Kind == 2, p.Kind == 3
	if !isLeaf && !isIndex && !isBlob {
		return api.ErrKind
	}
	if (isLeaf || isBlob) && p.Level != 0 || isIndex && !(p.Level >= 1 && p.Level <= 11) {
		return api.ErrForm
	}
	if (isLeaf || isIndex) && (len(p.Data) != 0 || p.Next != 0 || len(p.Items) > 8) {
		return api.ErrForm
	}
	if isLeaf && len(p.Items) == 0 || isIndex && len(p.Items) < 2 {
		return api.ErrForm
	}
	if isBlob && (len(p.Items) != 0 || len(p.Data) == 0 || len(p.Data) > 480) {
		return api.ErrForm
	}
	for i := range p.Items {
		if e := modelItem(p, i); e != api.OK {
			return e
		}
	}
	if isBlob && p.Next != 0 && (p.Next < 1 || p.Next > mostPages) {
		return api.ErrPage
	}
	return api.OK
}

func modelItem(p api.Page, i int) api.Errno {
	it, isLeaf := p.Items[i], p.Kind == 1
	if first := !isLeaf && i == 0; first && len(it.Key) != 0 || !first && (len(it.Key) == 0 || len(it.Key) > 24) {
		return api.ErrKey
	}
	if i > 0 && !(string(it.Key) > string(p.Items[i-1].Key)) {
		return api.ErrOrder
	}
	if isLeaf {
		if it.Size < 0 || it.Size > 3840 || it.Size <= 32 && len(it.Value) != it.Size || it.Size > 32 && len(it.Value) != 0 {
			return api.ErrValue
		}
	} else if len(it.Value) != 0 || it.Size != 0 {
		return api.ErrValue
	}
	if isLeaf && it.Size <= 32 {
		if it.Child != 0 {
			return api.ErrPage
		}
	} else if it.Child < 1 || it.Child > mostPages {
		return api.ErrPage
	}
	return api.OK
}

// modelBytes are the bytes of a page ahead of the zeros, by the chapter's table.
func modelBytes(no, gen int, p api.Page) []byte {
	b := []byte{byte(p.Kind), byte(p.Level)}
	b = binary.LittleEndian.AppendUint32(b, uint32(no))
	b = binary.LittleEndian.AppendUint64(b, uint64(gen))
	if p.Kind == 3 {
		b = binary.LittleEndian.AppendUint16(b, uint16(len(p.Data)))
		b = binary.LittleEndian.AppendUint32(b, uint32(p.Next))
		return append(b, p.Data...)
	}
	b = append(b, byte(len(p.Items)))
	for _, it := range p.Items {
		b = append(append(b, byte(len(it.Key))), it.Key...)
		if p.Kind == 1 {
			b = binary.LittleEndian.AppendUint16(b, uint16(it.Size))
		}
		if p.Kind == 1 && it.Size <= 32 {
			b = append(b, it.Value...)
		} else {
			b = binary.LittleEndian.AppendUint32(b, uint32(it.Child))
		}
	}
	return b
}

// sealed is the block that these bytes begin: zeros behind them, and the right sum,
// by the library's own CRC-32C.
func sealed(b []byte) []byte {
	b = append(slices.Clone(b), make([]byte, 508-len(b))...)
	return binary.LittleEndian.AppendUint32(b, crc32.Checksum(b, crc32.MakeTable(crc32.Castagnoli)))
}

// modelDecode is what a block with a right sum and the right number says; false, if
// it is the block of no page. It takes each number out by its place, and lets the
// rest to modelCheck.
func modelDecode(b []byte) (p api.Page, gen int, ok bool) {
	defer func() {
		if recover() != nil { // a part that runs beyond
			p, gen, ok = api.Page{}, 0, false
		}
	}()
	rest := b[:508:508]
	take := func(n int) []byte {
		part := rest[:n]
		rest = rest[n:]
		return slices.Clone(part)
	}
	number := func(n int) uint64 { return binary.LittleEndian.Uint64(append(take(n), make([]byte, 8-n)...)) }
	p.Kind, p.Level = int(number(1)), int(number(1))
	take(4)
	g := number(8)
	switch p.Kind {
	case 1, 2:
		for range number(1) {
			it := api.Item{Key: take(int(number(1)))}
			if p.Kind == 1 {
				it.Size = int(number(2))
			}
			if p.Kind == 1 && it.Size <= 32 {
				it.Value = take(it.Size)
			} else {
				it.Child = int(number(4))
			}
			p.Items = append(p.Items, it)
		}
	case 3:
		n := int(number(2))
		p.Next = int(number(4))
		p.Data = take(n)
	}
	if len(bytes.Trim(rest, "\x00")) != 0 || g > mostGen || modelCheck(p) != api.OK {
		return api.Page{}, 0, false
	}
	return p, int(g), true
}

// checked holds Check against what it must answer.
func checked(t *testing.T, what string, p api.Page, want api.Errno) {
	t.Helper()
	if got := page.Check(p); got != want {
		t.Errorf("%s: Check = %d, want %d", what, got, want)
	}
}

// encoded is the block of a page that Encode must take.
func encoded(t *testing.T, no, gen int, p api.Page) []byte {
	t.Helper()
	b, e := page.Encode(no, gen, p)
	if e != api.OK || len(b) != 512 {
		t.Fatalf("Encode(%d, %d, %v) = %d bytes, %d", no, gen, p, len(b), e)
	}
	return b
}

// decodes holds Decode of a block against what it must answer.
func decodes(t *testing.T, what string, no int, b []byte, p api.Page, gen int) {
	t.Helper()
	q, g, e := page.Decode(no, b)
	if e != api.OK || g != gen || !samePages(p, q) {
		t.Fatalf("%s: Decode(%d) = %v, %d, %d; want %v, %d, 0", what, no, q, g, e, p, gen)
	}
}

// refused holds Decode against its error, with which it answers nothing else.
func refused(t *testing.T, what string, no int, b []byte, want api.Errno) {
	t.Helper()
	p, gen, e := page.Decode(no, b)
	if e != want {
		t.Fatalf("%s: Decode(%d) = %d, want %d", what, no, e, want)
	}
	zero(t, what, p, gen)
}

func zero(t *testing.T, what string, p api.Page, gen int) {
	t.Helper()
	if !samePages(p, api.Page{}) || gen != 0 {
		t.Fatalf("%s: %v, %d beside an error", what, p, gen)
	}
}
