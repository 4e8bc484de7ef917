package page_test

import (
	"bytes"
	"encoding/binary"
	"slices"
	"strconv"
	"testing"

	"coppice/api"
	"coppice/draw"
	"coppice/page"
)

// first is the block that stands below the chapter's table.
func first() []byte {
	b := []byte{0x01, 0x00, 0x05, 0x00, 0x00, 0x00, 0x02, 0x01, 0x00, 0x00, 0x00, 0x00, 0x00, 0x00, 0x01, 0x01, 0x61, 0x01, 0x00, 0x78}
	b = append(b, make([]byte, 488)...)
	return append(b, 0xAA, 0x6A, 0x4B, 0xA1)
}

func TestExampleOfABlock(t *testing.T) {
	p := leaf(near("a", "x"))
	b := encoded(t, 5, 258, p)
	for i, x := range first() {
		if b[i] != x {
			t.Errorf("byte %d is %02x, want %02x", i, b[i], x)
		}
	}
	decodes(t, "the block", 5, first(), p, 258)
	refused(t, "another number", 6, first(), api.ErrOther)
	refused(t, "number 0", 0, first(), api.ErrPage)
	turned := first()
	turned[0] = 3
	refused(t, "another kind", 5, turned, api.ErrSum)
	refused(t, "a byte less", 5, first()[:511], api.ErrBlock)
}

// Blocks of an index, of a blob and of a leaf with a long value, written out.
func TestP7_2BytesOfEachKind(t *testing.T) {
	for _, c := range []struct {
		no, gen int
		p       api.Page
		ahead   string
	}{
		{1, 0, index(1, to("", 2), to("m", 3)), "\x02\x01\x01\x00\x00\x00\x00\x00\x00\x00\x00\x00\x00\x00\x02\x00\x02\x00\x00\x00\x01m\x03\x00\x00\x00"},
		{65536, mostGen, index(11, to("", 65536), to("ab", 258)), "\x02\x0b\x00\x00\x01\x00\x00\x00\x00\x00\x00\x01\x00\x00\x02\x00\x00\x00\x01\x00\x02ab\x02\x01\x00\x00"},
		{258, 1, api.Page{Kind: 3, Data: []byte("xyz"), Next: 65536}, "\x03\x00\x02\x01\x00\x00\x01\x00\x00\x00\x00\x00\x00\x00\x03\x00\x00\x00\x01\x00xyz"},
		{2, 0x0807060504, blob(1, 0), "\x03\x00\x02\x00\x00\x00\x04\x05\x06\x07\x08\x00\x00\x00\x01\x00\x00\x00\x00\x00k"},
		{3, 0, leaf(far("a", 33, 7)), "\x01\x00\x03\x00\x00\x00\x00\x00\x00\x00\x00\x00\x00\x00\x01\x01a\x21\x00\x07\x00\x00\x00"},
		{3, 0, leaf(near("a", ""), far("b", 3840, 65536), near("ba", "xy")), "\x01\x00\x03\x00\x00\x00\x00\x00\x00\x00\x00\x00\x00\x00\x03\x01a\x00\x00\x01b\x00\x0f\x00\x00\x01\x00\x02ba\x02\x00xy"},
	} {
		b := encoded(t, c.no, c.gen, c.p)
		if want := sealed([]byte(c.ahead)); !bytes.Equal(b, want) {
			t.Errorf("Encode(%d, %d, %v) = %x, want %x", c.no, c.gen, c.p, b, want)
		}
		decodes(t, "a block that was written out", c.no, sealed([]byte(c.ahead)), c.p, c.gen)
	}
}

func TestP7_2Block(t *testing.T) {
	r := draw.Numbers(73)
	for _, p := range soundPages() {
		for _, no := range []int{1, 2, 256, 65535, 65536, 1 + r.Below(mostPages)} {
			for _, gen := range []int{0, 1, 1 << 32, mostGen - 1, mostGen, r.Below(mostGen)} {
				b, want := encoded(t, no, gen, p), sealed(modelBytes(no, gen, p))
				if !bytes.Equal(b, want) {
					t.Fatalf("Encode(%d, %d, %v) = %x, want %x", no, gen, p, b, want)
				}
			}
		}
	}
}

// The greatest pages of each kind fill their blocks as far as the chapter says; of
// an index the first key, which is empty, leaves 24 bytes of its bound.
func TestP7_2Greatest(t *testing.T) {
	for _, c := range []struct {
		p    api.Page
		want int
	}{{greatLeaf(), 487}, {greatIndex(), 247 - 24}, {greatBlob(), 500}} {
		b, ahead := encoded(t, mostPages, mostGen, c.p), modelBytes(mostPages, mostGen, c.p)
		if len(ahead) != c.want || !bytes.Equal(b, sealed(ahead)) {
			t.Errorf("kind %d takes %d bytes, want %d: %x", c.p.Kind, len(ahead), c.want, b)
		}
		decodes(t, "a greatest page", mostPages, b, c.p, mostGen)
	}
}

// encodeRefused holds Encode against its error, with which it answers nothing else.
func encodeRefused(t *testing.T, what string, no, gen int, p api.Page, want api.Errno) {
	t.Helper()
	if b, e := page.Encode(no, gen, p); e != want || len(b) != 0 {
		t.Errorf("%s: Encode(%d, %d) = %d bytes, %d; want %d", what, no, gen, len(b), e, want)
	}
}

var noGens = []int{-1, -2, -mostGen, mostGen + 1, 2 * mostGen, greatest, least}

func TestP7_2Errors(t *testing.T) {
	wrong := []api.Page{{}, {Kind: 4}, leafOf(0), leafOf(9), leaf(near("", "")), leaf(near("b", ""), near("a", "")), leaf(far("a", 1, 0)), leaf(far("a", 33, 0)), blob(1, -1), indexOf(12, 2)}
	for _, no := range noNumbers {
		for _, gen := range append([]int{0, 1, mostGen}, noGens...) {
			for _, p := range append([]api.Page{leafOf(1), blob(1, 0)}, wrong...) {
				encodeRefused(t, "no number", no, gen, p, api.ErrPage)
			}
		}
	}
	for _, no := range []int{1, mostPages} {
		for _, gen := range noGens {
			for _, p := range append([]api.Page{leafOf(1), blob(1, 0)}, wrong...) {
				encodeRefused(t, "no generation", no, gen, p, api.ErrArg)
			}
		}
		for _, gen := range []int{0, mostGen} {
			for _, p := range wrong {
				encodeRefused(t, "no page", no, gen, p, modelCheck(p))
			}
			encoded(t, no, gen, leafOf(1))
		}
	}
}

func TestP7_2ErrorsOfCheck(t *testing.T) {
	r := draw.Numbers(74)
	for range 20000 {
		p := somePage(&r)
		for range 1 + r.Below(3) {
			spoil(&r, &p)
		}
		if e := modelCheck(p); e != api.OK {
			encodeRefused(t, "a page that was turned", 1+r.Below(mostPages), r.Below(mostGen+1), p, e)
		}
	}
}

// lengths are those that no block has.
var lengths = []int{0, 1, 4, 14, 20, 508, 511, 513, 516, 1024, 65536 + 512}

// What Decode refuses, in the order of its errors: each fault with all that come
// behind it.
func TestP7_3Errors(t *testing.T) {
	right := encoded(t, 7, 9, leafOf(3))
	noForm := sealed([]byte{9, 0, 7, 0, 0, 0})
	noSum := slices.Clone(noForm)
	noSum[511] ^= 1
	for _, no := range noNumbers {
		for _, b := range [][]byte{right, noForm, noSum, nil, {}, right[:511], append(slices.Clone(right), 0)} {
			refused(t, "no number", no, b, api.ErrPage)
		}
	}
	for _, no := range []int{1, 7, mostPages} {
		for _, n := range lengths {
			refused(t, "a length of "+strconv.Itoa(n), no, make([]byte, n), api.ErrBlock)
			long := append(slices.Clone(right), make([]byte, 1<<17)...)
			refused(t, "a length of "+strconv.Itoa(n), no, long[:n], api.ErrBlock)
		}
		refused(t, "nil", no, nil, api.ErrBlock)
		refused(t, "another sum", no, noSum, api.ErrSum)
		refused(t, "zeros", no, make([]byte, 512), api.ErrSum)
	}
	refused(t, "another number", 1, noForm, api.ErrOther)
	refused(t, "another number", mostPages, noForm, api.ErrOther)
	refused(t, "no form", 7, noForm, api.ErrForm)
	decodes(t, "right", 7, right, leafOf(3), 9)
}

// A number that no page has, with a right sum, is another one; and so is one that
// agrees in its lowest bytes alone.
func TestP7_3NumbersInTheBlock(t *testing.T) {
	b := modelBytes(7, 9, leafOf(3))
	for _, told := range []uint32{0, 6, 8, 7 << 8, 7<<8 | 7, 7 | 1<<16, 7 | 1<<17, 7 | 1<<24, 7 | 1<<31, 65537, 1<<32 - 1} {
		binary.LittleEndian.PutUint32(b[2:], told)
		refused(t, "told number "+strconv.Itoa(int(told)), 7, sealed(b), api.ErrOther)
		b[0] = 77
		refused(t, "the same with no kind", 7, sealed(b), api.ErrOther)
		b[0] = 1
	}
	binary.LittleEndian.PutUint32(b[2:], 65536)
	decodes(t, "the greatest number", 65536, sealed(b), leafOf(3), 9)
	refused(t, "another one", 7, sealed(b), api.ErrOther)
}

func TestP7_3Sum(t *testing.T) {
	b := first()
	for i := 508; i < 512; i++ {
		for x := range 256 {
			c := slices.Clone(b)
			c[i] = byte(x)
			if c[i] != b[i] {
				refused(t, "another sum", 5, c, api.ErrSum)
			}
		}
	}
	for _, sum := range []string{"\x00\x00\x00\x00", "\xA1\x4B\x6A\xAA", "\x55\x95\xB4\x5E", "\xff\xff\xff\xff"} {
		refused(t, "another sum", 5, append(slices.Clone(b[:508]), sum...), api.ErrSum)
	}
}

func TestP7_3Generations(t *testing.T) {
	for _, p := range []api.Page{leafOf(2), indexOf(1, 2), blob(3, 0)} {
		b := modelBytes(7, 0, p)
		for _, gen := range []uint64{mostGen + 1, mostGen * 2, mostGen | 1<<63, 1 << 63, 1<<63 - 1, 1<<64 - 1, 1 << 48, 1<<56 | 5} {
			binary.LittleEndian.PutUint64(b[6:], gen)
			refused(t, "generation "+strconv.FormatUint(gen, 10), 7, sealed(b), api.ErrForm)
		}
		for _, gen := range []uint64{0, 1, 258, mostGen - 1, mostGen} {
			binary.LittleEndian.PutUint64(b[6:], gen)
			decodes(t, "generation "+strconv.FormatUint(gen, 10), 7, sealed(b), p, int(gen))
		}
	}
}

func TestP7_3Kinds(t *testing.T) {
	for kind := range 256 {
		for _, p := range []api.Page{leafOf(2), blob(3, 0)} {
			b := modelBytes(7, 0, p)
			b[0] = byte(kind)
			if kind != p.Kind {
				refused(t, "kind "+strconv.Itoa(kind), 7, sealed(b), api.ErrForm)
			}
		}
		if kind < 1 || kind > 3 {
			refused(t, "kind "+strconv.Itoa(kind), 7, sealed([]byte{byte(kind), 0, 7, 0, 0, 0}), api.ErrForm)
		}
	}
}

func TestP7_3Levels(t *testing.T) {
	for level := range 256 {
		for _, p := range []api.Page{leafOf(2), indexOf(1, 2), blob(3, 0)} {
			p.Level = level
			if b := sealed(modelBytes(7, 0, p)); modelCheck(p) == api.OK {
				decodes(t, "level "+strconv.Itoa(level), 7, b, p, 0)
			} else {
				refused(t, "level "+strconv.Itoa(level), 7, b, api.ErrForm)
			}
		}
	}
}

// Counts of items that are too great or too small, with items as many as there are.
func TestP7_3Counts(t *testing.T) {
	for n := range 12 {
		for _, p := range []api.Page{leafOf(n), indexOf(1, n)} {
			b := sealed(modelBytes(7, 0, p))
			if modelCheck(p) == api.OK {
				decodes(t, strconv.Itoa(n)+" items", 7, b, p, 0)
			} else {
				refused(t, strconv.Itoa(n)+" items", 7, b, api.ErrForm)
			}
			for told := range 256 {
				c := modelBytes(7, 0, p)
				c[14] = byte(told)
				if told != n {
					refused(t, strconv.Itoa(n)+" items, told "+strconv.Itoa(told), 7, sealed(c), api.ErrForm)
				}
			}
		}
	}
}

// A part that runs beyond byte 508: into the sum, and beyond the block.
func TestP7_3PartsThatRunBeyond(t *testing.T) {
	for told := range 600 {
		b := sealed(modelBytes(7, 0, greatBlob()))[:508]
		binary.LittleEndian.PutUint16(b[14:], uint16(told))
		if told != 480 {
			refused(t, "data of "+strconv.Itoa(told), 7, sealed(b), api.ErrForm)
		}
	}
	for _, told := range []uint16{1024, 32767, 32768, 65535} {
		b := modelBytes(7, 0, blob(480, 0))
		binary.LittleEndian.PutUint16(b[14:], told)
		refused(t, "data of "+strconv.Itoa(int(told)), 7, sealed(b), api.ErrForm)
	}
	// The last item of each block is cut off where the sum begins.
	for cut := 1; cut <= 8; cut++ {
		b := modelBytes(7, 0, greatLeaf())
		item := b[len(b)-59:]
		b = append(b, make([]byte, 508-len(b))...)
		copy(b[508-59+cut:], item)
		refused(t, "an item that is cut", 7, sealed(b), api.ErrForm)
	}
	full := []byte{1, 0, 7, 0, 0, 0, 0, 0, 0, 0, 0, 0, 0, 0, 255}
	for i := 0; len(full) < 508; i++ {
		full = append(full, 2, byte(i), 1, 0, 0)
	}
	refused(t, "items to the end", 7, sealed(full[:508]), api.ErrForm)
}

// Keys and values by how many bytes they say they have.
func TestP7_3LengthsOfParts(t *testing.T) {
	for told := range 256 {
		for _, p := range []api.Page{leaf(api.Item{Key: text(told)}), index(1, to("", 1), api.Item{Key: text(told), Child: 9}), index(1, api.Item{Key: text(told), Child: 1}, to("z", 1))} {
			b := sealed(modelBytes(7, 0, p))
			if modelCheck(p) == api.OK {
				decodes(t, "a key of "+strconv.Itoa(told), 7, b, p, 0)
			} else {
				refused(t, "a key of "+strconv.Itoa(told), 7, b, api.ErrForm)
			}
		}
	}
	for size := range 65536 {
		p := leaf(api.Item{Key: text(1), Size: size})
		if size <= 32 {
			p.Items[0].Value = text(size)
		} else {
			p.Items[0].Child = 5
		}
		b := sealed(modelBytes(7, 0, p))
		if size <= 3840 {
			decodes(t, "size "+strconv.Itoa(size), 7, b, p, 0)
		} else if size < 3900 || size%97 == 0 || size > 65530 {
			refused(t, "size "+strconv.Itoa(size), 7, b, api.ErrForm)
		}
	}
}

// Numbers of pages in the block that are none.
func TestP7_3Pages(t *testing.T) {
	for _, child := range []int{0, 65537, 65536 + 256, 1 << 17, 1 << 24, 1 << 31, 1<<31 + 1, 1<<32 - 1} {
		what := "child " + strconv.Itoa(child)
		refused(t, what, 7, sealed(modelBytes(7, 0, leaf(far("a", 33, child)))), api.ErrForm)
		refused(t, what, 7, sealed(modelBytes(7, 0, index(1, to("", child), to("a", 1)))), api.ErrForm)
		refused(t, what, 7, sealed(modelBytes(7, 0, index(1, to("", 1), to("a", child)))), api.ErrForm)
		if child != 0 {
			refused(t, "next "+strconv.Itoa(child), 7, sealed(modelBytes(7, 0, blob(1, child))), api.ErrForm)
		}
	}
}

// A byte behind the last part that is not 0, at each place.
func TestP7_3ZerosBehind(t *testing.T) {
	for _, p := range []api.Page{leafOf(1), leafOf(8), greatLeaf(), indexOf(1, 2), greatIndex(), blob(1, 0), greatBlob()} {
		ahead := modelBytes(7, 3, p)
		for i := len(ahead); i < 508; i++ {
			for _, x := range []byte{1, 0x80, 0xFF} {
				b := append(slices.Clone(ahead), make([]byte, 508-len(ahead))...)
				b[i] = x
				refused(t, "a byte at "+strconv.Itoa(i), 7, sealed(b), api.ErrForm)
			}
		}
		decodes(t, "zeros alone", 7, sealed(ahead), p, 3)
	}
}

// Pages that Check refuses, as blocks with a right sum.
func TestP7_3PagesThatCheckRefuses(t *testing.T) {
	for _, p := range []api.Page{
		leaf(near("a", "x"), near("a", "y")), leaf(near("b", "x"), near("a", "y")), leaf(near("ab", "x"), near("a", "y")), leaf(near("", "x")),
		index(1, to("", 1), to("b", 2), to("b", 3)), index(1, to("", 1), to("c", 2), to("b", 3)), index(1, to("a", 1), to("b", 3)), index(1, to("", 1), to("", 2)),
		index(1, to("", 1)), index(0, to("", 1), to("b", 2)), index(12, to("", 1), to("b", 2)), leafOf(0), leafOf(9), indexOf(1, 9), blob(0, 0), blob(481, 0), blob(488, 0),
	} {
		if modelCheck(p) == api.OK {
			t.Fatalf("%v is sound", p)
		}
		refused(t, "a page that Check refuses", 7, sealed(modelBytes(7, 0, p)), api.ErrForm)
	}
}

// turnBytes turns a few bytes of those that tell something, or any.
func turnBytes(r *draw.Numbers, b []byte, told int) {
	for range 1 + r.Below(3) {
		i := r.Below(told)
		switch r.Below(4) {
		case 0:
			i = r.Below(508)
		case 1:
			i = r.Below(min(told, 24))
		}
		switch r.Below(3) {
		case 0:
			b[i] = byte(r.Next())
		case 1:
			b[i] += byte(r.Below(3)) - 1
		default:
			b[i] ^= 1 << r.Below(8)
		}
	}
}

// Blocks of which any bytes were turned, and the sum made right again, are held
// against the chapter's words.
func TestP7_3AnyBlocks(t *testing.T) {
	r := draw.Numbers(75)
	taken, formless := 0, 0
	for range 60000 {
		p, no, gen := somePage(&r), 1+r.Below(mostPages), r.Below(mostGen+1)
		ahead := modelBytes(no, gen, p)
		b := append(ahead, make([]byte, 508-len(ahead))...)
		turnBytes(&r, b, len(ahead))
		b = sealed(b)
		if binary.LittleEndian.Uint32(b[2:]) != uint32(no) {
			refused(t, "another number", no, b, api.ErrOther)
			continue
		}
		if p, gen, ok := modelDecode(b); ok {
			decodes(t, "a block that was turned", no, b, p, gen)
			if c := encoded(t, no, gen, p); !bytes.Equal(b, c) {
				t.Fatalf("Encode of what was decoded = %x, want %x", c, b)
			}
			taken++
		} else {
			refused(t, "a block that was turned", no, b, api.ErrForm)
			formless++
		}
	}
	if taken < 5000 || formless < 5000 {
		t.Errorf("%d were taken, %d not", taken, formless)
	}
}

// Blocks of no rule but a right sum and the right number.
func TestP7_3BlocksOfNoRule(t *testing.T) {
	r := draw.Numbers(76)
	for range 20000 {
		b := r.Bytes(508)
		b[0], b[1] = byte(r.Below(5)), byte(r.Below(2))
		copy(b[2:], []byte{7, 0, 0, 0, 0, 0, 0, 0, 0, 0, 0, 0, byte(r.Below(10))})
		clear(b[15+r.Below(100):])
		b = sealed(b)
		if p, gen, ok := modelDecode(b); ok {
			decodes(t, "a block of no rule", 7, b, p, gen)
		} else {
			refused(t, "a block of no rule", 7, b, api.ErrForm)
		}
		refused(t, "bytes of no rule", 7, r.Bytes(512), api.ErrSum)
	}
}
