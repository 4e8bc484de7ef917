package forest_test

import (
	"fmt"
	"slices"
	"testing"

	"coppice/api"
	"coppice/commit"
	"coppice/disk"
	"coppice/forest"
	"coppice/put"
	"coppice/super"
)

// fault is what may be wrong with a call: with the forest of which it is asked, or with its
// arguments.
type fault struct {
	name string
	e    api.Errno
}

var (
	dead    = fault{"dead", errDown}
	full    = fault{"full", errClones}
	lastId  = fault{"no id left", errMany}
	counted = fault{"led to as often as may be", errRefs}
	noRoom  = fault{"no page free", errSpace}
	noId    = fault{"no such id", errNone}
	badKey  = fault{"no key", errKey}
	badVal  = fault{"no value", errValue}
	badRule = fault{"no rule", errArg}
	nilDo   = fault{"nil", errArg}
	clash   = fault{"conflicts", errMerge}
)

// faulty is a disk on which a forest lies with these faults. The trees 1 and 3 are one, 2
// shares a leaf with them, 4 is empty, 5 takes all other pages.
func faulty(t *testing.T, faults []fault) *disk.Disk {
	t.Helper()
	c := api.Config{Blocks: 44, Clones: 6, Refs: 9}
	if slices.Contains(faults, full) {
		c.Clones = 5
	}
	if slices.Contains(faults, counted) {
		c.Refs = 2
	}
	d, f := formatted(t, c)
	ok := func(c call) {
		t.Helper()
		_, e := c.on(f)
		equal(t, c.name, e, 0)
	}
	ok(call{name: "Plant"})
	for _, k := range "abcdefghi" {
		ok(puts(1, string(k), "1"))
	}
	ok(call{name: "Clone", a: 1})
	ok(puts(2, "a", "2"))
	ok(call{name: "Clone", a: 1})
	ok(call{name: "Plant"})
	ok(call{name: "Plant"})
	if slices.Contains(faults, noRoom) {
		fill(t, f, 5)
	}
	ok(call{name: "Commit"})
	if slices.Contains(faults, lastId) {
		lay(t, d, f.Super(), func(s *api.Super) { s.Next = maxId + 1 })
	}
	return d
}

// fill takes all pages for a tree.
func fill(t *testing.T, f *forest.Forest, id int) {
	t.Helper()
	for n := 0; f.Tally(free) > 0; n++ {
		value := make([]byte, chunk*min(8, max(1, f.Tally(free)-1)))
		if n > 0 {
			value = make([]byte, chunk*min(8, f.Tally(free)))
		}
		_, e := f.Put(id, []byte(fmt.Sprint("f", n)), value)
		equal(t, "Put", e, 0)
	}
}

// lay writes the superblock of the last commit over, with something else in it. What would
// be committed next is handed in.
func lay(t *testing.T, d *disk.Disk, coming api.Super, turn func(s *api.Super)) {
	t.Helper()
	coming.Gen--
	turn(&coming)
	b, e := super.Encode(coming)
	equal(t, "super.Encode", e, 0)
	written(t, d, super.Slot(coming.Gen), b)
	equal(t, "Sync", d.Sync(), 0)
}

// kill lets a forest die.
func kill(t *testing.T, d *disk.Disk, f *forest.Forest) {
	t.Helper()
	d.Off()
	equal(t, "Commit without power", f.Commit(), errDown)
	d.On(nil)
	equal(t, "Dead", f.Dead(), true)
}

// wrongIds has no tree in a faulty forest.
func wrongIds() []int { return []int{0, -1, 6, 7, 1<<32 + 3, lowest, greatest, maxId, maxId + 1} }

// kind is a call, of which all is right but its faults: which there may be, in their order.
type kind struct {
	call
	ids    int // so many of a, b and c are ids
	faults []fault
}

func kinds() []kind {
	from := api.Range{Lo: []byte("h"), Open: true}
	key, value := []byte("i"), []byte("2")
	all := []kind{
		{call{name: "Plant"}, 0, []fault{dead, full, lastId}},
		{call{name: "Clone", a: 1}, 1, []fault{dead, noId, full, lastId, counted}},
		{call{name: "Drop", a: 1}, 1, []fault{dead, noId}},
		{call{name: "Put", a: 3, key: key, value: value}, 1, []fault{dead, noId, badKey, badVal, noRoom, counted}},
		{call{name: "Delete", a: 3, key: key}, 1, []fault{dead, noId, badKey, noRoom, counted}},
		{call{name: "Trim", a: 3, r: from}, 1, []fault{dead, noId, noRoom, counted}},
		{call{name: "Get", a: 3, key: key}, 1, []fault{dead, noId, badKey}},
		{call{name: "Scan", a: 3, r: from}, 1, []fault{dead, noId}},
		{call{name: "List", a: 3, r: from}, 1, []fault{dead, noId}},
		{call{name: "Swap", a: 1, b: 2}, 2, []fault{dead, noId}},
		{call{name: "All"}, 0, []fault{dead, nilDo}},
		{call{name: "Diff", a: 1, b: 2, r: allKeys}, 2, []fault{dead, noId}},
		{call{name: "Reach", a: 2}, 1, []fault{dead, noId}},
		{call{name: "Check"}, 0, []fault{dead}},
	}
	for rule := range 3 {
		faults := []fault{dead, badRule, noId, clash, noRoom, counted}
		if rule != mergeFail {
			faults = slices.DeleteFunc(faults, func(x fault) bool { return x == clash })
		}
		all = append(all, kind{call{name: "Merge", a: 1, b: 3, c: 2, rule: rule}, 3, faults})
	}
	return all
}

// spoiltBy is a call with each way of having these faults.
func (k kind) spoiltBy(faults []fault) []call {
	calls := []call{k.call}
	each := func(is fault, turns ...func(c *call)) {
		if !slices.Contains(faults, is) {
			return
		}
		var all []call
		for _, c := range calls {
			for _, turn := range turns {
				x := c
				turn(&x)
				all = append(all, x)
			}
		}
		calls = all
	}
	each(clash, func(c *call) { c.a = 4 })
	each(badKey, func(c *call) { c.key = nil }, func(c *call) { c.key = []byte{} }, func(c *call) { c.key = make([]byte, maxKey+1) })
	each(badVal, func(c *call) { c.value = make([]byte, maxValue+1) })
	each(badRule, func(c *call) { c.rule = -1 }, func(c *call) { c.rule = 3 }, func(c *call) { c.rule = 1<<32 + 1 }, func(c *call) { c.rule = lowest })
	each(nilDo, func(c *call) { c.isNil = true })
	var turns []func(c *call)
	ids := wrongIds()
	if len(faults) > 1 {
		ids = ids[:1]
	}
	for _, id := range ids {
		for mask := 1; mask < 1<<k.ids; mask++ {
			turns = append(turns, func(c *call) {
				for n, at := range []*int{&c.a, &c.b, &c.c} {
					if mask>>n&1 == 1 {
						*at = id
					}
				}
			})
		}
	}
	each(noId, turns...)
	return calls
}

// Each call with each set of faults: the answer is the first one of them, and behind it all
// is as it was (P24.2 to P24.4, P24.5, P24.6, P24.9, P24.10, P24.11).
func TestErrorsInTheirOrder(t *testing.T) {
	t.Parallel()
	disks := map[string]*disk.Disk{}
	for _, k := range kinds() {
		for mask := range 1 << len(k.faults) {
			var faults []fault
			for n, x := range k.faults {
				if mask>>n&1 == 1 {
					faults = append(faults, x)
				}
			}
			name := fmt.Sprint(faults)
			if disks[name] == nil {
				disks[name] = faulty(t, faults)
			}
			for _, c := range k.spoiltBy(faults) {
				answered(t, twin(t, disks[name]), c, faults)
			}
		}
	}
}

// answered asks a call of the forest on a disk: the first fault is told.
func answered(t *testing.T, d *disk.Disk, c call, faults []fault) {
	t.Helper()
	f := opened(t, d)
	if slices.Contains(faults, dead) {
		kill(t, d, f)
	}
	want := api.Errno(0)
	if len(faults) > 0 {
		want = faults[0].e
	}
	before := whole(f)
	unwritten(t, d, func() {
		told, e := c.on(f)
		if e != want {
			t.Fatalf("%+v with %v: %s, want error %d", c, faults, told, want)
		}
		none := toldNothing(c.name, want)
		if c.name == "Merge" && want == errMerge {
			none = "61  31 32 [false true true] error 26"
		}
		if want != 0 {
			equal(t, c.name+" beside an error", told, none)
			equal(t, "all is as it was behind "+c.name, whole(f), before)
		}
	})
}

// P24.7: a Commit's errors: within All, at the greatest generation.
func TestP24_7ErrorsInTheirOrder(t *testing.T) {
	refused := func(d *disk.Disk, f *forest.Forest, want api.Errno) {
		t.Helper()
		before := whole(f)
		unwritten(t, d, func() { equal(t, "Commit", f.Commit(), want) })
		equal(t, "all is as it was", whole(f), before)
	}
	d := laidAt(t, maxGen-1)
	f := opened(t, d)
	equal(t, "All", f.All(func() api.Errno { refused(d, f, errArg); return 0 }), 0)
	equal(t, "of the greatest generation", f.Super().Gen, maxGen)
	equal(t, "Commit", f.Commit(), 0)
	for range 2 {
		refused(d, f, errMany)
		equal(t, "All", f.All(func() api.Errno { refused(d, f, errArg); return 0 }), 0)
		d.Off()
		refused(d, f, errMany)
		d.On(nil)
		equal(t, "Dead", f.Dead(), false)
		row(t, f, call{name: "Plant"}, fmt.Sprint(f.Super().Next, " error 0"))
	}
	f = opened(t, d)
	equal(t, "behind the greatest generation", f.Super().Gen, maxGen+1)
	equal(t, "the next id", f.Super().Next, 2)
	refused(d, f, errMany)
}

// laidAt is a disk on which a forest of one tree lies, its last commit being of this
// generation.
func laidAt(t *testing.T, gen int) *disk.Disk {
	t.Helper()
	c := api.Config{Blocks: 12, Clones: 4, Refs: 9}
	d := newDisk(t, c.Blocks)
	_, v, e := commit.Format(d, c)
	equal(t, "commit.Format", e, 0)
	x, _, e := put.Put(v, api.Tree{}, []byte("a"), []byte("1"))
	equal(t, "put.Put", e, 0)
	s := api.Super{Gen: gen, Config: c, Next: 2, Roots: []api.Root{{Id: 1, Tree: x}}}
	equal(t, "commit.Write", commit.Write(d, s, v), 0)
	return d
}
