package fsck_test

import (
	"bytes"
	"maps"
	"slices"

	"coppice/api"
	"coppice/bank"
	"coppice/disk"
	"coppice/grove"
	"coppice/page"
	"coppice/super"
)

// The calls as the chapter tells them, slow and plain.

// modelWhole is Whole of a vault that has what a store has.
func modelWhole(s *grove.Store, l []api.Root) (api.Report, api.Errno) {
	report := api.Report{Trees: len(l)}
	for _, r := range l {
		m := &soundness{s: s, gone: map[int]int{}}
		if !m.of(r.Tree) {
			return api.Report{}, errCorrupt
		}
		report.Items += r.Tree.Items
		report.Bytes += m.bytes
	}
	led := modelCounts(s, treesOf(l))
	for k, c := range s.Counts {
		if led[k+1] != c {
			return api.Report{}, errCorrupt
		}
	}
	for n := range led {
		report.Pages++
		switch s.On[n-1].Kind {
		case leafKind:
			report.Leaves++
		case indexKind:
			report.Index++
		case blobKind:
			report.Blobs++
		}
	}
	return report, 0
}

// modelCounts is how often each page that is reached from trees is led to.
func modelCounts(s *grove.Store, l []api.Tree) map[int]int {
	led := map[int]int{}
	var next []int
	for _, x := range l {
		if x.Root != 0 {
			next = append(next, x.Root)
		}
	}
	for len(next) > 0 {
		n := next[0]
		next = next[1:]
		if led[n]++; led[n] == 1 && n >= 1 && n <= len(s.On) {
			next = append(next, grove.LeadsTo(s.On[n-1])...)
		}
	}
	return led
}

// soundness is what the document's list of what is sound asks for, of one tree.
type soundness struct {
	s           *grove.Store
	gone        map[int]int // how often it was led to
	keys, bytes int
}

func (m *soundness) of(x api.Tree) bool {
	if x == empty {
		return true
	}
	return x.Root != 0 && x.Height >= 1 && x.Height <= maxHeight && m.page(x.Root, x.Height-1, true, nil, nil) && m.keys == x.Items
}

// opened is a page that is there, and that nothing else has led to.
func (m *soundness) opened(n int) (api.Page, bool) {
	m.gone[n]++
	if m.gone[n] > 1 || n < 1 || n > len(m.s.On) || m.s.Counts[n-1] == 0 {
		return api.Page{}, false
	}
	return m.s.On[n-1], true
}

// page looks at a page whose keys may not be below one of los, nor reach one of his.
func (m *soundness) page(n, level int, isRoot bool, los, his [][]byte) bool {
	p, ok := m.opened(n)
	switch {
	case !ok || !isRoot && len(p.Items) < least:
		return false
	case level == 0:
		return p.Kind == leafKind && m.leaf(p, los, his)
	case p.Kind != indexKind || p.Level != level:
		return false
	}
	for k, i := range p.Items {
		lower, upper := append(slices.Clip(los), i.Key), his
		if k+1 < len(p.Items) {
			upper = append(slices.Clip(his), p.Items[k+1].Key)
		}
		if !m.page(i.Child, level-1, false, lower, upper) {
			return false
		}
	}
	return true
}

func (m *soundness) leaf(p api.Page, los, his [][]byte) bool {
	for _, i := range p.Items {
		for _, lo := range los {
			if bytes.Compare(i.Key, lo) < 0 {
				return false
			}
		}
		for _, hi := range his {
			if bytes.Compare(i.Key, hi) >= 0 {
				return false
			}
		}
		if i.Size > inline && !m.value(i.Child, i.Size) {
			return false
		}
		m.keys++
		m.bytes += i.Size
	}
	return true
}

// value looks at the pages of a value of which so many bytes are lacking.
func (m *soundness) value(n, lacking int) bool {
	p, ok := m.opened(n)
	if !ok || p.Kind != blobKind {
		return false
	}
	if lacking > chunk {
		return len(p.Data) == chunk && p.Next != 0 && m.value(p.Next, lacking-chunk)
	}
	return len(p.Data) == lacking && p.Next == 0
}

// shown is what a block shows.
func shown(d *disk.Disk, at int) []byte {
	b, _ := d.Read(at)
	return b
}

// modelLoad is Load; the store is what the vault must have.
func modelLoad(d *disk.Disk, s api.Super) (*grove.Store, api.Report, api.Errno) {
	if e := super.Check(s); e != 0 {
		return nil, api.Report{}, e
	}
	if !d.IsOn() {
		return nil, api.Report{}, errDown
	}
	if d.Blocks() != s.Config.Blocks {
		return nil, api.Report{}, errCorrupt
	}
	plan, _ := super.Plan(s.Config)
	var blocks [][]byte
	for i := range plan.Bank {
		blocks = append(blocks, shown(d, 2+s.Gen%2*plan.Bank+i))
	}
	counts, e := bank.Decode(s.Gen, plan.Pages, blocks)
	if e != 0 {
		return nil, api.Report{}, errCorrupt
	}
	store := grove.StoreOf(s.Config.Refs, nil, plan.Pages)
	store.Counts = counts
	for k, c := range counts {
		if c == 0 {
			continue
		}
		p, gen, e := page.Decode(k+1, shown(d, 2+2*plan.Bank+k))
		if c > s.Config.Refs || e != 0 || gen > s.Gen {
			return nil, api.Report{}, errCorrupt
		}
		store.On[k], store.Lasts[k] = p, 1
	}
	report, e := modelWhole(store, s.Roots)
	if e != 0 {
		return nil, api.Report{}, e
	}
	return store, report, 0
}

// ledAs is a page as what it is led to.
type ledAs struct{ no, kind, level int }

// levelOf is a page as one of a level.
func levelOf(no, level int) ledAs {
	if level == 0 {
		return ledAs{no, leafKind, 0}
	}
	return ledAs{no, indexKind, level}
}

// modelBad is Bad.
func modelBad(d *disk.Disk, s api.Super) ([]int, api.Errno) {
	if e := super.Check(s); e != 0 {
		return nil, e
	}
	if !d.IsOn() {
		return nil, errDown
	}
	if d.Blocks() != s.Config.Blocks {
		return nil, errOther
	}
	plan, _ := super.Plan(s.Config)
	blocks := map[int]int{}
	for i := range plan.Bank {
		at := 2 + s.Gen%2*plan.Bank + i
		if _, e := bank.Block(s.Gen, plan.Pages, i, shown(d, at)); e != 0 {
			blocks[at]++
		}
	}
	for x, isRight := range modelInto(d, s, plan) {
		if !isRight {
			blocks[plan.First+x.no-1]++
		}
	}
	return slices.Sorted(maps.Keys(blocks)), 0
}

// modelInto is all that is gone into, and whether it is right.
func modelInto(d *disk.Disk, s api.Super, plan api.Plan) map[ledAs]bool {
	into := map[ledAs]bool{}
	var next []ledAs
	for _, r := range s.Roots {
		if r.Tree.Root != 0 {
			next = append(next, levelOf(r.Tree.Root, r.Tree.Height-1))
		}
	}
	for len(next) > 0 {
		x := next[0]
		next = next[1:]
		if _, before := into[x]; before {
			continue
		}
		p, gen, e := page.Decode(x.no, shown(d, plan.First+x.no-1))
		into[x] = e == 0 && gen <= s.Gen && p.Kind == x.kind && p.Level == x.level
		for _, kid := range grove.LeadsTo(p) {
			into[x] = into[x] && kid <= plan.Pages
		}
		if into[x] {
			next = append(next, modelKids(p)...)
		}
	}
	return into
}

// modelKids is what a page leads to, as what.
func modelKids(p api.Page) []ledAs {
	var l []ledAs
	for _, i := range p.Items {
		switch {
		case p.Kind == indexKind:
			l = append(l, levelOf(i.Child, p.Level-1))
		case i.Size > inline:
			l = append(l, ledAs{i.Child, blobKind, 0})
		}
	}
	if p.Next != 0 {
		l = append(l, ledAs{p.Next, blobKind, 0})
	}
	return l
}
