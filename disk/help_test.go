package disk_test

import (
	"bytes"
	"slices"
	"testing"

	"coppice/api"
	"coppice/disk"
	"coppice/draw"
)

// The calls have just these types.
var (
	_ func(int) (*disk.Disk, api.Errno)               = disk.New
	_ func([]byte) (*disk.Disk, api.Errno)            = disk.From
	_ func(*disk.Disk) int                            = (*disk.Disk).Blocks
	_ func(*disk.Disk, int) ([]byte, api.Errno)       = (*disk.Disk).Read
	_ func(*disk.Disk, int, []byte) api.Errno         = (*disk.Disk).Write
	_ func(*disk.Disk) api.Errno                      = (*disk.Disk).Sync
	_ func(*disk.Disk, int)                           = (*disk.Disk).Arm
	_ func(*disk.Disk)                                = (*disk.Disk).Off
	_ func(*disk.Disk, []bool)                        = (*disk.Disk).On
	_ func(*disk.Disk) bool                           = (*disk.Disk).IsOn
	_ func(*disk.Disk) []int                          = (*disk.Disk).Unsynced
	_ func(*disk.Disk) (int, int)                     = (*disk.Disk).Acts
	_ func(*disk.Disk) []byte                         = (*disk.Disk).Image
	_ func(d *disk.Disk, i int, b []byte) (laid bool) = (*disk.Disk).Lay
)

const (
	least    = -1 << 63
	greatest = 1<<63 - 1
)

// full is a block of bytes x.
func full(x byte) []byte { return bytes.Repeat([]byte{x}, api.BlockSize) }

// made is a new disk.
func made(t *testing.T, blocks int) *disk.Disk {
	t.Helper()
	d, e := disk.New(blocks)
	if d == nil || e != api.OK {
		t.Fatalf("New(%d): %d", blocks, e)
	}
	return d
}

// errno holds an error against the one that is wanted.
func errno(t *testing.T, call string, got, want api.Errno) {
	t.Helper()
	if got != want {
		t.Fatalf("%s: error %d, want %d", call, got, want)
	}
}

// reads holds what a block shows against a block of bytes x.
func reads(t *testing.T, d *disk.Disk, i int, x byte) {
	t.Helper()
	b, e := d.Read(i)
	errno(t, "Read", e, api.OK)
	if !bytes.Equal(b, full(x)) {
		t.Fatalf("Read(%d) = %d bytes, the first ones % x; want bytes %x", i, len(b), b[:min(len(b), 4)], x)
	}
}

// writes writes a block of bytes x.
func writes(t *testing.T, d *disk.Disk, i int, x byte) {
	t.Helper()
	errno(t, "Write", d.Write(i, full(x)), api.OK)
}

// syncs syncs.
func syncs(t *testing.T, d *disk.Disk) {
	t.Helper()
	errno(t, "Sync", d.Sync(), api.OK)
}

// lasts holds the image against blocks of bytes: the i-th one has the bytes x[i],
// the others 0.
func lasts(t *testing.T, d *disk.Disk, x ...byte) {
	t.Helper()
	image := d.Image()
	if len(image) != d.Blocks()*api.BlockSize {
		t.Fatalf("Image() has %d bytes", len(image))
	}
	for i := range d.Blocks() {
		want := byte(0)
		if i < len(x) {
			want = x[i]
		}
		if b := image[i*api.BlockSize:][:api.BlockSize]; !bytes.Equal(b, full(want)) {
			t.Fatalf("Image(): block %d begins with % x, want bytes %x", i, b[:4], want)
		}
	}
}

// waits holds the blocks of the writes that were not synced against those wanted.
func waits(t *testing.T, d *disk.Disk, want ...int) {
	t.Helper()
	if l := d.Unsynced(); !slices.Equal(l, want) {
		t.Fatalf("Unsynced() = %v, want %v", l, want)
	}
}

// acts holds how many writes and syncs were done against those wanted.
func acts(t *testing.T, d *disk.Disk, writes, syncs int) {
	t.Helper()
	if w, s := d.Acts(); w != writes || s != syncs {
		t.Fatalf("Acts() = %d, %d, want %d, %d", w, s, writes, syncs)
	}
}

// on holds whether there is power against what is wanted.
func on(t *testing.T, d *disk.Disk, want bool) {
	t.Helper()
	if d.IsOn() != want {
		t.Fatalf("IsOn() = %t", d.IsOn())
	}
}

// alarm holds the alarm against what is wanted, by letting it go off: so many acts
// are done, and at the next one the power fails. Below 0: none is set.
func alarm(t *testing.T, d *disk.Disk, want int) {
	t.Helper()
	on(t, d, true)
	for n := range 20 {
		if n == want {
			errno(t, "Sync at the alarm", d.Sync(), api.ErrDown)
			on(t, d, false)
			return
		}
		errno(t, "Sync ahead of the alarm", d.Sync(), api.OK)
	}
	if want >= 0 {
		t.Fatalf("the alarm did not go off")
	}
}

// seen is what can be seen of a disk without changing it.
type seen struct {
	blocks, writes, syncs int
	on                    bool
	unsynced              []int
	image                 []byte
	shown                 [][]byte
	errors                []api.Errno
}

// look is what can be seen of a disk.
func look(d *disk.Disk) seen {
	s := seen{blocks: d.Blocks(), on: d.IsOn(), unsynced: d.Unsynced(), image: d.Image()}
	s.writes, s.syncs = d.Acts()
	for _, i := range append([]int{least, -1, s.blocks, greatest}, upTo(s.blocks)...) {
		b, e := d.Read(i)
		s.shown, s.errors = append(s.shown, b), append(s.errors, e)
	}
	return s
}

func upTo(n int) []int {
	l := make([]int, n)
	for i := range l {
		l[i] = i
	}
	return l
}

// same holds what is seen of a disk against what is wanted.
func same(t *testing.T, what string, got, want seen) {
	t.Helper()
	switch {
	case got.blocks != want.blocks || got.on != want.on:
		t.Fatalf("%s: %d blocks, power: %t; want %d, %t", what, got.blocks, got.on, want.blocks, want.on)
	case got.writes != want.writes || got.syncs != want.syncs:
		t.Fatalf("%s: %d writes, %d syncs; want %d, %d", what, got.writes, got.syncs, want.writes, want.syncs)
	case !slices.Equal(got.unsynced, want.unsynced):
		t.Fatalf("%s: not synced: %v, want %v", what, got.unsynced, want.unsynced)
	case !bytes.Equal(got.image, want.image):
		t.Fatalf("%s: what lasts is another", what)
	case !slices.Equal(got.errors, want.errors):
		t.Fatalf("%s: reads answer %v, want %v", what, got.errors, want.errors)
	case !slices.EqualFunc(got.shown, want.shown, bytes.Equal):
		t.Fatalf("%s: what the blocks show is another", what)
	}
}

// model is a disk as the chapter tells it, slow and plain: what lasts as one list,
// and what a block shows looked for each time anew.
type model struct {
	image         []byte
	at            []int
	bytes         [][]byte
	on            bool
	alarm         int // below 0: none
	writes, syncs int
}

func newModel(image []byte) *model {
	return &model{image: slices.Clone(image), on: true, alarm: -1}
}

func (m *model) blocks() int { return len(m.image) / api.BlockSize }

func (m *model) has(i int) bool { return slices.Contains(upTo(m.blocks()), i) }

func (m *model) place(i int) []byte { return m.image[i*api.BlockSize : (i+1)*api.BlockSize] }

func (m *model) read(i int) ([]byte, api.Errno) {
	if !m.on {
		return nil, api.ErrDown
	}
	if !m.has(i) {
		return nil, api.ErrBlock
	}
	shows := m.place(i)
	for n, at := range m.at {
		if at == i {
			shows = m.bytes[n]
		}
	}
	return slices.Clone(shows), api.OK
}

// act: is it done?
func (m *model) act() bool {
	if m.alarm == 0 {
		m.off()
		return false
	}
	if m.alarm > 0 {
		m.alarm--
	}
	return true
}

func (m *model) write(i int, b []byte) api.Errno {
	if !m.on {
		return api.ErrDown
	}
	if !m.has(i) {
		return api.ErrBlock
	}
	if len(b) != api.BlockSize {
		return api.ErrArg
	}
	if !m.act() {
		return api.ErrDown
	}
	m.at, m.bytes = append(m.at, i), append(m.bytes, slices.Clone(b))
	m.writes++
	return api.OK
}

// last lets the writes last that keep names.
func (m *model) last(keep func(int) bool) {
	for n, at := range m.at {
		if keep(n) {
			copy(m.place(at), m.bytes[n])
		}
	}
	m.at, m.bytes = nil, nil
}

func (m *model) sync() api.Errno {
	if !m.on || !m.act() {
		return api.ErrDown
	}
	m.last(func(int) bool { return true })
	m.syncs++
	return api.OK
}

func (m *model) arm(acts int) {
	if m.on {
		m.alarm = acts
	}
}

func (m *model) off() { m.on, m.alarm = false, -1 }

func (m *model) turnOn(keep []bool) {
	if m.on {
		return
	}
	m.last(func(n int) bool { return n < len(keep) && keep[n] })
	m.on, m.alarm = true, -1
}

func (m *model) lay(i int, b []byte) bool {
	if m.on || !m.has(i) || len(b) != api.BlockSize {
		return false
	}
	copy(m.place(i), b)
	return true
}

// look is what is to be seen of a disk that is as the model is.
func (m *model) look() seen {
	s := seen{blocks: m.blocks(), writes: m.writes, syncs: m.syncs, on: m.on, unsynced: slices.Clone(m.at), image: slices.Clone(m.image)}
	for _, i := range append([]int{least, -1, s.blocks, greatest}, upTo(s.blocks)...) {
		b, e := m.read(i)
		s.shown, s.errors = append(s.shown, b), append(s.errors, e)
	}
	return s
}

// someBlock is the number of a block; now and then there is no such block.
func someBlock(r *draw.Numbers, blocks int) int {
	if r.Below(8) == 0 {
		return []int{-1, blocks, blocks + 1, least, greatest, -blocks}[r.Below(6)]
	}
	return r.Below(blocks)
}

// someBytes is the bytes of a block; now and then too few or too many, or all 0.
func someBytes(r *draw.Numbers) []byte {
	switch r.Below(12) {
	case 0:
		return r.Bytes(api.BlockSize + []int{-1, 1, -512, 512, 5, -507}[r.Below(6)])
	case 1, 2, 3:
		return make([]byte, api.BlockSize)
	}
	return r.Bytes(api.BlockSize)
}

// someKeep is what On is told: as many elements as there are writes, fewer or more.
func someKeep(r *draw.Numbers, writes int) []bool {
	keep := make([]bool, max(0, writes+r.Below(7)-3))
	for i := range keep {
		keep[i] = r.Below(2) == 0
	}
	return keep
}
