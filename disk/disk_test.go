package disk_test

import (
	"bytes"
	"sync"
	"testing"

	"coppice/api"
	"coppice/disk"
	"coppice/draw"
)

// The chapter's table, row by row.
func TestExamples(t *testing.T) {
	none, e := disk.New(7)
	if none != nil || e != api.ErrArg {
		t.Fatalf("New(7): %d", e)
	}
	d := made(t, 8)
	if none, e = disk.From(make([]byte, 513)); none != nil || e != api.ErrArg {
		t.Fatalf("From(513 bytes): %d", e)
	}
	if f, e := disk.From(make([]byte, 8*512)); f == nil || e != api.OK {
		t.Fatalf("From(8 * 512 bytes): %d", e)
	}

	writes(t, d, 3, 1)
	reads(t, d, 3, 1)
	lasts(t, d)
	waits(t, d, 3)
	acts(t, d, 1, 0)

	writes(t, d, 3, 2)
	errno(t, "Write(9)", d.Write(9, full(1)), api.ErrBlock)
	errno(t, "Write of 5 bytes", d.Write(0, make([]byte, 5)), api.ErrArg)
	errno(t, "Write(9) of none", d.Write(9, nil), api.ErrBlock)

	d.Off()
	_, e = d.Read(3)
	errno(t, "Read", e, api.ErrDown)
	errno(t, "Write(9) of none", d.Write(9, nil), api.ErrDown)
	errno(t, "Sync", d.Sync(), api.ErrDown)
	d.Arm(0)

	waits(t, d, 3, 3)
	if !d.Lay(3, full(7)) || d.Lay(8, full(7)) {
		t.Fatalf("Lay")
	}
	d.On([]bool{true})
	reads(t, d, 3, 1)
	waits(t, d)

	d.Arm(1)
	writes(t, d, 1, 4)
	errno(t, "Sync", d.Sync(), api.ErrDown)
	on(t, d, false)
	acts(t, d, 3, 0)

	d.On(nil)
	reads(t, d, 1, 0)
	reads(t, d, 3, 1)
	if d.Lay(1, full(4)) {
		t.Fatalf("Lay with power")
	}

	writes(t, d, 1, 4)
	d.Arm(0)
	errno(t, "Write(9)", d.Write(9, full(1)), api.ErrBlock)
	errno(t, "Write", d.Write(2, full(5)), api.ErrDown)
	d.On([]bool{true, true})
	reads(t, d, 1, 4)
	reads(t, d, 2, 0)

	writes(t, d, 2, 6)
	syncs(t, d)
	d.Off()
	d.On(nil)
	reads(t, d, 2, 6)
	acts(t, d, 5, 1)
}

// fresh is a new disk as P6.1 tells it.
func fresh(t *testing.T, d *disk.Disk, blocks int, image []byte) {
	t.Helper()
	if d.Blocks() != blocks || !bytes.Equal(d.Image(), image) {
		t.Fatalf("Blocks() = %d, want %d, or another image", d.Blocks(), blocks)
	}
	on(t, d, true)
	waits(t, d)
	acts(t, d, 0, 0)
	for _, i := range []int{0, 1, blocks / 2, blocks - 1} {
		b, e := d.Read(i)
		errno(t, "Read", e, api.OK)
		if !bytes.Equal(b, image[i*api.BlockSize:(i+1)*api.BlockSize]) {
			t.Fatalf("block %d of %d is another", i, blocks)
		}
	}
	for _, i := range []int{-1, blocks} {
		_, e := d.Read(i)
		errno(t, "Read", e, api.ErrBlock)
	}
	alarm(t, d, -1)
	d.Off()
	d.On([]bool{true, true})
	if !bytes.Equal(d.Image(), image) {
		t.Fatalf("not all of it lasted")
	}
}

func TestP6_1New(t *testing.T) {
	for _, n := range []int{api.MinBlocks, api.MinBlocks + 1, 240, api.MaxBlocks - 1, api.MaxBlocks} {
		fresh(t, made(t, n), n, make([]byte, n*api.BlockSize))
	}
	for _, n := range []int{api.MinBlocks - 1, api.MaxBlocks + 1, 0, 1, -1, -8, -65536, least, greatest, 1 << 32} {
		if d, e := disk.New(n); d != nil || e != api.ErrArg {
			t.Errorf("New(%d): %t, %d", n, d != nil, e)
		}
	}
}

func TestP6_1From(t *testing.T) {
	r := draw.Numbers(61)
	for _, n := range []int{api.MinBlocks, api.MinBlocks + 1, 100} {
		image := r.Bytes(n * api.BlockSize)
		clear(image[api.BlockSize : 2*api.BlockSize])
		d, e := disk.From(image)
		errno(t, "From", e, api.OK)
		fresh(t, d, n, image)
	}
	image := make([]byte, api.MaxBlocks*api.BlockSize)
	image[len(image)-1], image[0] = 1, 2
	d, e := disk.From(image)
	errno(t, "From", e, api.OK)
	fresh(t, d, api.MaxBlocks, image)
}

func TestP6_1FromRefused(t *testing.T) {
	great := make([]byte, (api.MaxBlocks+1)*api.BlockSize)
	for _, n := range []int{0, 1, 511, 512, 513, 7 * 512, 8*512 - 1, 8*512 + 1, 8*512 + 256, 9*512 - 1, 100*512 + 1,
		api.MaxBlocks*512 - 1, api.MaxBlocks*512 + 1, (api.MaxBlocks + 1) * 512} {
		if d, e := disk.From(great[:n]); d != nil || e != api.ErrArg {
			t.Errorf("From of %d bytes: %t, %d", n, d != nil, e)
		}
	}
	if d, e := disk.From(nil); d != nil || e != api.ErrArg {
		t.Errorf("From(nil): %d", e)
	}
}

func TestP6_2Read(t *testing.T) {
	d := made(t, 9)
	writes(t, d, 8, 1)
	writes(t, d, 0, 2)
	syncs(t, d)
	reads(t, d, 8, 1)
	reads(t, d, 0, 2)
	reads(t, d, 4, 0)
	writes(t, d, 8, 3)
	writes(t, d, 0, 0)
	writes(t, d, 8, 4)
	reads(t, d, 8, 4)
	reads(t, d, 0, 0)
	for _, i := range []int{-1, 9, 10, least, greatest, -9} {
		b, e := d.Read(i)
		errno(t, "Read", e, api.ErrBlock)
		if b != nil {
			t.Errorf("Read(%d) = %d bytes beside an error", i, len(b))
		}
	}
	d.Arm(0)
	for i := range 9 {
		d.Read(i)
	}
	d.Read(9)
	on(t, d, true)
	d.Off()
	for _, i := range []int{0, 8, -1, 9, least, greatest} {
		b, e := d.Read(i)
		errno(t, "Read", e, api.ErrDown)
		if b != nil {
			t.Errorf("Read(%d) = %d bytes beside an error", i, len(b))
		}
	}
}

func TestP6_3Write(t *testing.T) {
	d := made(t, 8)
	for n, i := range []int{7, 0, 7, 3, 7} {
		writes(t, d, i, byte(n+1))
		reads(t, d, i, byte(n+1))
		acts(t, d, n+1, 0)
	}
	waits(t, d, 7, 0, 7, 3, 7)
	lasts(t, d)
	reads(t, d, 0, 2)
	reads(t, d, 3, 4)
	reads(t, d, 7, 5)
	writes(t, d, 0, 2)
	waits(t, d, 7, 0, 7, 3, 7, 0)
	d.Off()
	d.On([]bool{true, true, true, true})
	lasts(t, d, 2, 0, 0, 4, 0, 0, 0, 3)
}

// wrong is what Write refuses with power, in the order of its errors.
var wrong = []struct {
	at, length int
	want       api.Errno
}{
	{-1, 512, api.ErrBlock}, {8, 512, api.ErrBlock}, {9, 512, api.ErrBlock}, {least, 512, api.ErrBlock}, {greatest, 512, api.ErrBlock},
	{-1, 0, api.ErrBlock}, {8, 511, api.ErrBlock}, {8, 513, api.ErrBlock}, {-8, 5, api.ErrBlock},
	{0, 0, api.ErrArg}, {7, 511, api.ErrArg}, {7, 513, api.ErrArg}, {3, 1024, api.ErrArg}, {3, 5, api.ErrArg}, {0, 1, api.ErrArg},
}

func TestP6_3WriteRefused(t *testing.T) {
	d := made(t, 8)
	writes(t, d, 1, 9)
	syncs(t, d)
	writes(t, d, 2, 9)
	before := look(d)
	d.Arm(0)
	for _, w := range wrong {
		errno(t, "Write", d.Write(w.at, make([]byte, w.length)), w.want)
		same(t, "behind a Write that was refused", look(d), before)
	}
	errno(t, "Write(8, nil)", d.Write(8, nil), api.ErrBlock)
	errno(t, "Write(0, nil)", d.Write(0, nil), api.ErrArg)
	same(t, "behind Writes that were refused", look(d), before)
	d.Arm(2)
	for _, w := range wrong {
		d.Write(w.at, make([]byte, w.length))
	}
	alarm(t, d, 2)

	before = look(d)
	for _, w := range wrong {
		errno(t, "Write without power", d.Write(w.at, make([]byte, w.length)), api.ErrDown)
	}
	errno(t, "Write without power", d.Write(0, full(1)), api.ErrDown)
	same(t, "behind Writes without power", look(d), before)
}

func TestP6_4Sync(t *testing.T) {
	d := made(t, 8)
	syncs(t, d)
	acts(t, d, 0, 1)
	lasts(t, d)
	writes(t, d, 2, 1)
	writes(t, d, 2, 2)
	writes(t, d, 0, 3)
	writes(t, d, 2, 4)
	lasts(t, d)
	syncs(t, d)
	lasts(t, d, 3, 0, 4)
	waits(t, d)
	acts(t, d, 4, 2)
	reads(t, d, 2, 4)
	writes(t, d, 2, 5)
	writes(t, d, 0, 0)
	lasts(t, d, 3, 0, 4)
	syncs(t, d)
	lasts(t, d, 0, 0, 5)
	reads(t, d, 0, 0)
	acts(t, d, 6, 3)

	writes(t, d, 1, 1)
	d.Off()
	before := look(d)
	errno(t, "Sync without power", d.Sync(), api.ErrDown)
	same(t, "behind a Sync without power", look(d), before)
}

func TestP6_5Arm(t *testing.T) {
	for _, n := range []int{0, 1, 2, 5, 19} {
		d := made(t, 8)
		d.Arm(n)
		alarm(t, d, n)
	}
	for _, n := range []int{-1, -2, -5, least} {
		d := made(t, 8)
		d.Arm(n)
		alarm(t, d, -1)
		d.Arm(0)
		d.Arm(n)
		alarm(t, d, -1)
	}
	d := made(t, 8)
	d.Arm(greatest)
	alarm(t, d, -1)
	d.Arm(0)
	d.Arm(3)
	syncs(t, d)
	d.Arm(2)
	alarm(t, d, 2)
	d.Arm(0)
	d.On(nil)
	alarm(t, d, -1)
}

// The alarm counts writes and syncs alike, and none that is refused.
func TestP6_5AlarmAtWrite(t *testing.T) {
	d := made(t, 8)
	d.Arm(3)
	writes(t, d, 1, 1)
	errno(t, "Write", d.Write(8, full(1)), api.ErrBlock)
	syncs(t, d)
	errno(t, "Write", d.Write(0, nil), api.ErrArg)
	writes(t, d, 1, 2)
	before := look(d)
	errno(t, "Write", d.Write(8, full(1)), api.ErrBlock)
	errno(t, "Write", d.Write(1, full(1)[1:]), api.ErrArg)
	same(t, "ahead of the alarm", look(d), before)
	errno(t, "Write at the alarm", d.Write(1, full(3)), api.ErrDown)
	on(t, d, false)
	waits(t, d, 1)
	acts(t, d, 2, 1)
	lasts(t, d, 0, 1)
	d.On([]bool{true, true})
	lasts(t, d, 0, 2)
	reads(t, d, 1, 2)
	acts(t, d, 2, 1)
	alarm(t, d, -1)
}

func TestP6_5AlarmAtSync(t *testing.T) {
	d := made(t, 8)
	d.Arm(2)
	writes(t, d, 1, 1)
	writes(t, d, 2, 2)
	errno(t, "Sync at the alarm", d.Sync(), api.ErrDown)
	on(t, d, false)
	waits(t, d, 1, 2)
	acts(t, d, 2, 0)
	lasts(t, d)
	d.On([]bool{false, true})
	lasts(t, d, 0, 0, 2)
	reads(t, d, 1, 0)
	alarm(t, d, -1)
}

func TestP6_5Off(t *testing.T) {
	d := made(t, 8)
	writes(t, d, 3, 1)
	syncs(t, d)
	writes(t, d, 3, 2)
	d.Arm(4)
	d.Off()
	on(t, d, false)
	before := look(d)
	d.Off()
	d.Arm(0)
	d.Arm(1)
	d.Arm(-1)
	same(t, "behind a second Off", look(d), before)
	waits(t, d, 3)
	lasts(t, d, 0, 0, 0, 1)
	acts(t, d, 2, 1)
	d.Arm(1)
	d.On([]bool{true})
	on(t, d, true)
	lasts(t, d, 0, 0, 0, 2)
	alarm(t, d, -1)
}

func TestP6_6On(t *testing.T) {
	for _, c := range []struct {
		keep []bool
		want []byte
	}{
		{nil, nil},
		{[]bool{}, nil},
		{[]bool{false}, nil},
		{[]bool{true}, []byte{0, 1}},
		{[]bool{false, true}, []byte{2}},
		{[]bool{true, true}, []byte{2, 1}},
		{[]bool{true, true, true}, []byte{2, 3}},
		{[]bool{false, false, true}, []byte{0, 3}},
		{[]bool{true, false, false, true}, []byte{4, 1}},
		{[]bool{true, true, true, true}, []byte{4, 3}},
		{[]bool{true, true, true, false, true, true, true}, []byte{2, 3}},
		{[]bool{false, false, false, false, true, true, true}, nil},
	} {
		d := made(t, 8)
		for n, i := range []int{1, 0, 1, 0} {
			writes(t, d, i, byte(n+1))
		}
		d.Off()
		d.On(c.keep)
		on(t, d, true)
		waits(t, d)
		acts(t, d, 4, 0)
		lasts(t, d, c.want...)
		for i, x := range append(c.want, 0, 0)[:2] {
			reads(t, d, i, x)
		}
		alarm(t, d, -1)
	}
}

// A write of bytes 0 that lasts takes away what was there; one that does not last
// leaves it.
func TestP6_6OnOfZeros(t *testing.T) {
	for _, last := range []bool{false, true} {
		d := made(t, 8)
		writes(t, d, 5, 7)
		syncs(t, d)
		writes(t, d, 5, 0)
		reads(t, d, 5, 0)
		d.Off()
		d.On([]bool{last})
		reads(t, d, 5, map[bool]byte{false: 7, true: 0}[last])
	}
}

func TestP6_6OnWithPower(t *testing.T) {
	d := made(t, 8)
	writes(t, d, 1, 1)
	d.Arm(2)
	before := look(d)
	d.On(nil)
	d.On([]bool{true, true})
	d.On([]bool{false})
	same(t, "behind On with power", look(d), before)
	lasts(t, d)
	alarm(t, d, 2)
}

func TestP6_7WithPowerAndWithout(t *testing.T) {
	d := made(t, 10)
	check := func(writes, syncs int, waiting []int, x ...byte) {
		t.Helper()
		if d.Blocks() != 10 {
			t.Fatalf("Blocks() = %d", d.Blocks())
		}
		acts(t, d, writes, syncs)
		waits(t, d, waiting...)
		lasts(t, d, x...)
	}
	check(0, 0, nil)
	writes(t, d, 2, 1)
	check(1, 0, []int{2})
	d.Off()
	check(1, 0, []int{2})
	d.On(nil)
	check(1, 0, nil)
	writes(t, d, 1, 1)
	syncs(t, d)
	check(2, 1, nil, 0, 1)
	writes(t, d, 9, 1)
	writes(t, d, 0, 1)
	d.Arm(0)
	check(4, 1, []int{9, 0}, 0, 1)
	d.Write(0, full(2))
	check(4, 1, []int{9, 0}, 0, 1)
	if !d.Lay(1, full(5)) {
		t.Fatalf("Lay")
	}
	check(4, 1, []int{9, 0}, 0, 5)
	d.On([]bool{false, true})
	check(4, 1, nil, 1, 5)
	d.Off()
	d.Sync()
	check(4, 1, nil, 1, 5)
}

func TestP6_8LayRefused(t *testing.T) {
	d := made(t, 8)
	writes(t, d, 1, 1)
	before := look(d)
	for _, i := range []int{0, 1, 7, 8, -1} {
		if d.Lay(i, full(5)) || d.Lay(i, nil) {
			t.Fatalf("Lay(%d) with power", i)
		}
	}
	same(t, "behind Lay with power", look(d), before)
	d.Off()
	before = look(d)
	for _, w := range wrong {
		if d.Lay(w.at, bytes.Repeat([]byte{9}, w.length)) {
			t.Fatalf("Lay(%d) of %d bytes", w.at, w.length)
		}
	}
	if d.Lay(0, nil) || d.Lay(8, nil) {
		t.Fatalf("Lay of nothing")
	}
	same(t, "behind Lay that was refused", look(d), before)
}

func TestP6_8Lay(t *testing.T) {
	d := made(t, 8)
	writes(t, d, 7, 6)
	syncs(t, d)
	d.Off()
	for i, x := range []byte{1, 2, 3} {
		if !d.Lay(i, full(x)) {
			t.Fatalf("Lay(%d)", i)
		}
	}
	lasts(t, d, 1, 2, 3, 0, 0, 0, 0, 6)
	if !d.Lay(1, full(8)) || !d.Lay(2, full(0)) || !d.Lay(7, full(5)) {
		t.Fatalf("Lay over what lasts")
	}
	lasts(t, d, 1, 8, 0, 0, 0, 0, 0, 5)
	on(t, d, false)
	acts(t, d, 1, 1)
	d.On(nil)
	lasts(t, d, 1, 8, 0, 0, 0, 0, 0, 5)
	reads(t, d, 1, 8)
	reads(t, d, 2, 0)
}

// The writes that were not synced stay where they are, and may last over it.
func TestP6_8LayBeneathWrites(t *testing.T) {
	for _, c := range []struct {
		keep []bool
		want byte
	}{{nil, 9}, {[]bool{true}, 1}, {[]bool{false, true}, 2}, {[]bool{true, true}, 2}, {[]bool{false, false, true}, 9}} {
		d := made(t, 8)
		writes(t, d, 4, 1)
		writes(t, d, 4, 2)
		d.Off()
		if !d.Lay(4, full(9)) {
			t.Fatalf("Lay")
		}
		waits(t, d, 4, 4)
		lasts(t, d, 0, 0, 0, 0, 9)
		d.On(c.keep)
		reads(t, d, 4, c.want)
		lasts(t, d, 0, 0, 0, 0, c.want)
	}
}

func TestP6_10AtTheSameTime(t *testing.T) {
	d := made(t, 64)
	for i := range 64 {
		writes(t, d, i, byte(i))
		if i == 31 {
			syncs(t, d)
		}
	}
	var all sync.WaitGroup
	bad := make([]int, 8)
	for n := range bad {
		all.Go(func() {
			for i := range 640 {
				b, e := d.Read((i + n) % 64)
				if e != api.OK || !bytes.Equal(b, full(byte((i+n)%64))) || d.Blocks() != 64 || !d.IsOn() {
					bad[n]++
				}
				b, e = d.Read(64 + i)
				if e != api.ErrBlock || b != nil {
					bad[n]++
				}
			}
		})
	}
	all.Wait()
	for n := range bad {
		if bad[n] != 0 {
			t.Errorf("reader %d: %d answers are wrong", n, bad[n])
		}
	}
}
