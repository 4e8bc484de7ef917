package sum_test

import (
	"bytes"
	"encoding/binary"
	"hash/crc32"
	"math"
	"slices"
	"strconv"
	"sync"
	"testing"
	"time"

	"coppice/draw"
	"coppice/sum"
)

// The calls have just these types.
var (
	_ func([]byte) uint32              = sum.Of
	_ func(uint32, []byte) uint32      = sum.More
	_ func(uint32, uint32, int) uint32 = sum.Join
	_ func(int) uint32                 = sum.Zeros
)

const (
	round = 1<<31 - 1
	full  = 0xFFFFFFFF
)

// step, goOn and wordSum are the chapter's words, bit by bit.
func step(x uint32) uint32 {
	if x%2 == 1 {
		return x/2 ^ 0x82F63B78
	}
	return x / 2
}

func goOn(x uint32, b []byte) uint32 {
	for _, c := range b {
		x ^= uint32(c)
		for range 8 {
			x = step(x)
		}
	}
	return x
}

func wordSum(b []byte) uint32 { return full ^ goOn(full, b) }

// power is 8 times n steps by another way than squares of a matrix: numbers
// are polynomials, bit 31 being the power 0, and a step is a product with x.
func power(s uint32, n uint64) uint32 {
	x := uint32(1 << 31)
	for range 8 {
		x = step(x)
	}
	for ; n > 0; n /= 2 {
		if n%2 == 1 {
			s = product(s, x)
		}
		x = product(x, x)
	}
	return s
}

func product(a, b uint32) uint32 {
	p := uint32(0)
	for i := range 32 {
		if a>>(31-i)&1 == 1 {
			p ^= b
		}
		b = step(b)
	}
	return p
}

func word(r *draw.Numbers) uint32 { return uint32(r.Next() >> 32) }

func count(r *draw.Numbers) int { return int(r.Next() >> 1) }

// rows are rows of bytes of many lengths, the first ones each byte alone.
func rows() [][]byte {
	list := [][]byte{nil, {}, []byte("a"), []byte("123456789"), bytes.Repeat([]byte{0xFF}, 32)}
	for i := range 256 {
		list = append(list, []byte{byte(i)})
	}
	r := draw.Numbers(1)
	for n := range 70 {
		list = append(list, r.Bytes(n), make([]byte, n))
	}
	return append(list, r.Bytes(512), r.Bytes(4096), r.Bytes(100001))
}

// words are numbers of 32 bits: the ends, each bit alone, and others.
func words() []uint32 {
	list := []uint32{0, full, 0x82F63B78, 0x7FFFFFFF}
	for i := range 32 {
		list = append(list, 1<<i)
	}
	r := draw.Numbers(2)
	for range 30 {
		list = append(list, word(&r))
	}
	return list
}

// counts are numbers from 0 to 2^63 - 1: small ones, those around each power
// of two, and others.
func counts() []int {
	list := []int{0, 1, 2, 3, 5, 100, 479, 1000003, round - 1, round, round + 1, 2 * round, math.MaxInt - 1, math.MaxInt}
	for i := 1; i < 63; i++ {
		list = append(list, 1<<i-1, 1<<i, 1<<i+1)
	}
	r := draw.Numbers(3)
	for range 40 {
		list = append(list, count(&r))
	}
	return list
}

// alike holds an answer against the one that is wanted.
func alike(t *testing.T, what string, got, want uint32) {
	t.Helper()
	if got != want {
		t.Errorf("%s = %08X, want %08X", what, got, want)
	}
}

func call(name string, parts ...any) string {
	s := name + "("
	for i, p := range parts {
		if i > 0 {
			s += ", "
		}
		switch x := p.(type) {
		case int:
			s += strconv.Itoa(x)
		case uint32:
			s += strconv.FormatUint(uint64(x), 16)
		case []byte:
			s += strconv.Itoa(len(x)) + " bytes"
		}
	}
	return s + ")"
}

func TestExamples(t *testing.T) {
	ones := bytes.Repeat([]byte{0xFF}, 32)
	for _, x := range []struct {
		what      string
		got, want uint32
	}{
		{"Of(no bytes)", sum.Of([]byte{}), 0},
		{"Of(nil)", sum.Of(nil), 0},
		{"Of(a)", sum.Of([]byte("a")), 0xC1D04330},
		{"Of(123456789)", sum.Of([]byte("123456789")), 0xE3069283},
		{"Of(32 bytes 0)", sum.Of(make([]byte, 32)), 0x8A9136AA},
		{"Of(32 bytes FF)", sum.Of(ones), 0x62A8AB43},
		{"More(Of(1234), 56789)", sum.More(sum.Of([]byte("1234")), []byte("56789")), 0xE3069283},
		{"Join(Of(1234), Of(56789), 5)", sum.Join(sum.Of([]byte("1234")), sum.Of([]byte("56789")), 5), 0xE3069283},
		{"Zeros(0)", sum.Zeros(0), 0},
		{"Zeros(-5)", sum.Zeros(-5), 0},
		{"Zeros(1)", sum.Zeros(1), 0x527D5351},
		{"Zeros(32)", sum.Zeros(32), 0x8A9136AA},
		{"Zeros(4)", sum.Zeros(4), 0x48674BC7},
		{"Of(00 00 00 00)", sum.Of([]byte{0, 0, 0, 0}), 0x48674BC7},
		{"Zeros(2^62)", sum.Zeros(4611686018427387904), 0x527D5351},
		{"Join(1, 0, 1)", sum.Join(1, 0, 1), 0xF26B8303},
		{"Join(1, 0, 0)", sum.Join(1, 0, 0), 1},
		{"More(FFFFFFFF, one byte 0)", sum.More(full, []byte{0}), full},
	} {
		alike(t, x.what, x.got, x.want)
	}
}

func TestP1_1Of(t *testing.T) {
	castagnoli := crc32.MakeTable(crc32.Castagnoli)
	for _, b := range rows() {
		alike(t, call("Of", b), sum.Of(b), wordSum(b))
		alike(t, call("Of", b), sum.Of(b), crc32.Checksum(b, castagnoli))
	}
}

func TestP1_2More(t *testing.T) {
	for _, s := range words() {
		for _, b := range rows()[:400] {
			alike(t, call("More", s, b), sum.More(s, b), full^goOn(full^s, b))
		}
	}
}

func TestP1_3Zeros(t *testing.T) {
	for n := range 600 {
		alike(t, call("Zeros", n), sum.Zeros(n), wordSum(make([]byte, n)))
	}
	alike(t, "Zeros(2^20)", sum.Zeros(1<<20), wordSum(make([]byte, 1<<20)))
	for _, n := range counts() {
		alike(t, call("Zeros", n), sum.Zeros(n), full^power(full, uint64(n)))
	}
	for _, n := range []int{-1, -2, -8, -round, -1 << 62, math.MinInt + 1, math.MinInt} {
		alike(t, call("Zeros", n), sum.Zeros(n), 0)
	}
}

func TestP1_4Join(t *testing.T) {
	for _, a := range words() {
		for n := range 100 {
			b := a*77 + uint32(n)
			alike(t, call("Join", a, b, n), sum.Join(a, b, n), goOn(a, make([]byte, n))^b)
		}
		for _, n := range []int{-1, -2, -8, -round, -1 << 62, math.MinInt + 1, math.MinInt} {
			alike(t, call("Join", a, uint32(5), n), sum.Join(a, 5, n), a^5)
		}
	}
	for _, n := range counts() {
		for _, a := range []uint32{1, 1 << 31, full, 0x12345678} {
			alike(t, call("Join", a, ^a, n), sum.Join(a, ^a, n), power(a, uint64(n))^^a)
		}
	}
}

// A broken way would take years: so the calls are given up, not waited for.
func TestGreatCountsEndSoon(t *testing.T) {
	done := make(chan [2]uint32)
	go func() {
		var last [2]uint32
		for range 1000 {
			last = [2]uint32{sum.Zeros(math.MaxInt), sum.Join(1, 0, math.MaxInt)}
		}
		done <- last
	}()
	select {
	case got := <-done: // 2^63 - 1 is 1 more than a multiple of 2^31 - 1
		alike(t, "Zeros(2^63 - 1)", got[0], 0x527D5351)
		alike(t, "Join(1, 0, 2^63 - 1)", got[1], 0xF26B8303)
	case <-time.After(60 * time.Second):
		t.Fatal("Zeros(2^63 - 1) and Join(1, 0, 2^63 - 1) take too long")
	}
}

func TestP1_5Parts(t *testing.T) {
	for _, c := range rows()[:400] {
		for i := range len(c) + 1 {
			a, b := c[:i], c[i:]
			alike(t, call("More", a, b), sum.More(sum.Of(a), b), sum.Of(c))
			alike(t, call("Join", a, b, len(b)), sum.Join(sum.Of(a), sum.Of(b), len(b)), sum.Of(c))
		}
	}
	some := slices.Concat(rows()[:6], rows()[380:400])
	for _, s := range words() {
		alike(t, call("More", s, []byte{}), sum.More(s, []byte{}), s)
		alike(t, call("More", s, []byte(nil)), sum.More(s, nil), s)
		for _, b := range some {
			alike(t, call("Join", s, sum.Of(b), len(b)), sum.Join(s, sum.Of(b), len(b)), sum.More(s, b))
		}
	}
}

func TestP1_6InAnyOrder(t *testing.T) {
	r := draw.Numbers(4)
	check := func(m, n int) {
		a, b, c := word(&r), word(&r), word(&r)
		alike(t, call("Join of Join", a, b, m, c, n), sum.Join(sum.Join(a, b, m), c, n), sum.Join(a, sum.Join(b, c, n), m+n))
		alike(t, call("Join of Zeros", m, n), sum.Join(sum.Zeros(m), sum.Zeros(n), n), sum.Zeros(m+n))
	}
	for m := range 12 {
		for n := range 12 {
			check(m, n)
		}
	}
	for _, m := range counts() {
		check(m, 0)
		check(0, m)
		check(m, math.MaxInt-m)
		check(math.MaxInt-m, m)
		check(m/2, count(&r)/2)
	}
}

func TestP1_7NoCarry(t *testing.T) {
	r := draw.Numbers(5)
	for _, n := range append(counts(), -1, math.MinInt) {
		for range 4 {
			a, b, c, d := word(&r), word(&r), word(&r), word(&r)
			alike(t, call("Join", a^c, b^d, n), sum.Join(a^c, b^d, n), sum.Join(a, b, n)^sum.Join(c, d, n))
		}
		alike(t, call("Join", uint32(0), uint32(0), n), sum.Join(0, 0, n), 0)
	}
}

func TestP1_8TheRound(t *testing.T) {
	r := draw.Numbers(6)
	const last = math.MaxInt - round // 2^63 - 2^31
	for _, n := range append(counts(), last, last-1, last-round) {
		if n > last {
			continue
		}
		a, b := word(&r), word(&r)
		alike(t, call("Join", a, b, n+round), sum.Join(a, b, n+round), sum.Join(a, b, n))
		alike(t, call("Zeros", n+round), sum.Zeros(n+round), sum.Zeros(n))
	}
	for _, a := range words() {
		alike(t, call("Join", a, uint32(0), round), sum.Join(a, 0, round), a)
	}
	alike(t, "Zeros(2^31 - 1)", sum.Zeros(round), 0)
}

// flipped is b with the bits of mask turned from bit number at on, the bits of
// each byte being counted from the lowest one on; false if they go beyond b.
func flipped(b []byte, at int, mask uint32) ([]byte, bool) {
	c := slices.Clone(b)
	for i := range 32 {
		if mask>>i&1 == 0 {
			continue
		}
		if at+i >= 8*len(b) {
			return nil, false
		}
		c[(at+i)/8] ^= 1 << ((at + i) % 8)
	}
	return c, true
}

func TestP1_9ToldForCertain(t *testing.T) {
	r := draw.Numbers(7)
	for _, n := range []int{1, 2, 4, 5, 9, 64, 500} {
		b := r.Bytes(n)
		s := sum.Of(b)
		for at := range 8 * n {
			for _, mask := range append(words(), 0x80000001, word(&r)|1) {
				c, ok := flipped(b, at, mask)
				if ok && mask != 0 && sum.Of(c) == s {
					t.Errorf("of %d bytes: the bits %08X from bit %d on are turned, and the sum is the same", n, mask, at)
				}
			}
		}
	}
}

func TestP1_9OtherBytes(t *testing.T) {
	r := draw.Numbers(8)
	b := r.Bytes(40)
	s := sum.Of(b)
	for i := range b {
		for x := range 256 {
			c := slices.Clone(b)
			c[i] = byte(x)
			if same := c[i] == b[i]; (sum.Of(c) == s) != same {
				t.Errorf("byte %d is %02X in place of %02X: is the sum the same? %v", i, x, b[i], !same)
			}
		}
	}
	for i := range len(b) - 3 {
		for range 200 {
			c := slices.Clone(b)
			binary.BigEndian.PutUint32(c[i:], word(&r))
			if same := bytes.Equal(b, c); (sum.Of(c) == s) != same {
				t.Errorf("four bytes from %d on are %x in place of %x: is the sum the same? %v", i, c[i:i+4], b[i:i+4], !same)
			}
		}
	}
}

func TestP1_10ItsOwnSumBehindIt(t *testing.T) {
	for _, b := range rows() {
		c := binary.LittleEndian.AppendUint32(slices.Clone(b), sum.Of(b))
		alike(t, call("Of", b)+" with its sum behind it", sum.Of(c), 0x48674BC7)
	}
}

// R4: what is handed in is not changed, its spare room included, and not kept.
func TestR4ArgumentsAreLeftAlone(t *testing.T) {
	r := draw.Numbers(9)
	room := r.Bytes(200)
	before := slices.Clone(room)
	b := room[50:120]
	of, more := sum.Of(b), sum.More(7, b)
	if !bytes.Equal(room, before) {
		t.Fatal("Of or More has changed what was handed in, or what lies around it")
	}
	for i := range room {
		room[i] ^= 0x5A
	}
	other := sum.Of(b)
	alike(t, "Of, behind a change of what was handed in", other, wordSum(b))
	alike(t, "Of", sum.Of(before[50:120]), of)
	alike(t, "More", sum.More(7, before[50:120]), more)
	if other == of {
		t.Error("the sum of other bytes is the same")
	}
}

// R5: an answer hangs on the arguments alone, whoever else is asking.
func TestR5SameAnswers(t *testing.T) {
	r := draw.Numbers(10)
	b := r.Bytes(300)
	var group sync.WaitGroup
	for i := range 8 {
		group.Go(func() {
			for n := range 50 {
				own := b[n : 100+i*n/2]
				alike(t, call("Of", own), sum.Of(own), wordSum(own))
				alike(t, call("Join", uint32(i), uint32(n), n), sum.Join(uint32(i), uint32(n), n), goOn(uint32(i), make([]byte, n))^uint32(n))
				alike(t, call("Zeros", n), sum.Zeros(n), wordSum(make([]byte, n)))
			}
		})
	}
	group.Wait()
}
