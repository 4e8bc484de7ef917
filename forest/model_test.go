package forest_test

import (
	"fmt"
	"iter"
	"maps"
	"slices"
	"testing"

	"coppice/api"
	"coppice/bulk"
	"coppice/commit"
	"coppice/cut"
	"coppice/disk"
	"coppice/grove"
	"coppice/put"
	"coppice/vault"
)

// plain is a forest as the document tells it, slow and plain: what its trees hold is told
// from maps; what stands where, from a store of pages to which the layers beneath do what
// they do to one tree.
type plain struct {
	t      *testing.T
	d      *disk.Disk // of its own
	now    world
	within int
	dead   bool
	met    met
}

// world is what is put back where a call is undone; it is never changed, another one takes
// its place.
type world struct {
	store  *grove.Store
	coming api.Super
	family family
}

// plainOf is the model of a forest of which this was opened, or formatted.
func plainOf(t *testing.T, d *disk.Disk, last api.Super, store *grove.Store, f family) *plain {
	last.Gen++
	return &plain{t: t, d: d, now: world{store, last, f}, met: met{}}
}

// plainFormat formats the model's own disk.
func plainFormat(t *testing.T, d *disk.Disk, c api.Config) *plain {
	t.Helper()
	s, v, e := commit.Format(d, c)
	equal(t, "commit.Format", e, 0)
	return plainOf(t, d, s, grove.StoreFrom(v), family{})
}

// with is the same superblock, in which the tree of an id is this one.
func with(s api.Super, id int, x api.Tree) api.Super {
	s.Roots = slices.Clone(s.Roots)
	for k, r := range s.Roots {
		if r.Id == id {
			s.Roots[k].Tree = x
		}
	}
	return s
}

func (p *plain) tree(id int) api.Tree {
	for _, r := range p.now.coming.Roots {
		if r.Id == id {
			return r.Tree
		}
	}
	return api.Tree{}
}

// missing is ErrDown, or ErrNone, if one of the ids has no tree.
func (p *plain) missing(ids ...int) api.Errno {
	if p.dead {
		return errDown
	}
	for _, id := range ids {
		if p.now.family[id] == nil {
			return errNone
		}
	}
	return 0
}

func (p *plain) isFull() api.Errno {
	switch {
	case len(p.now.family) == p.now.coming.Config.Clones:
		return errClones
	case p.now.coming.Next == maxId+1:
		return errMany
	}
	return 0
}

func wrongKey(key []byte) bool { return len(key) == 0 || len(key) > maxKey }

func (p *plain) grown(store *grove.Store, x api.Tree, has map[string]string) int {
	s := p.now.coming
	id := s.Next
	s.Next++
	s.Roots = append(slices.Clone(s.Roots), api.Root{Id: id, Tree: x})
	p.now = world{store, s, p.now.family.with(id, has)}
	return id
}

func (p *plain) Plant() (int, api.Errno) {
	if p.dead {
		return 0, errDown
	}
	if e := p.isFull(); e != 0 {
		return 0, e
	}
	return p.grown(p.now.store, api.Tree{}, map[string]string{}), 0
}

func (p *plain) Clone(id int) (int, api.Errno) {
	if e := p.missing(id); e != 0 {
		return 0, e
	}
	if e := p.isFull(); e != 0 {
		return 0, e
	}
	store, x := p.now.store, p.tree(id)
	if x.Root != 0 {
		if store.Counts[x.Root-1] == store.Refs {
			return 0, errRefs
		}
		store = store.Copy()
		store.Counts[x.Root-1]++
	}
	return p.grown(store, x, p.now.family[id]), 0
}

func (p *plain) Drop(id int) api.Errno {
	if e := p.missing(id); e != 0 {
		return e
	}
	store, s := p.now.store.Copy(), p.now.coming
	if x := p.tree(id); x.Root != 0 {
		store.Drop(x.Root)
	}
	s.Roots = slices.DeleteFunc(slices.Clone(s.Roots), func(r api.Root) bool { return r.Id == id })
	p.now = world{store, s, p.now.family.with(id, nil)}
	return 0
}

// turned lets a tree become what an act makes of it, and its map this one.
func (p *plain) turned(id int, has map[string]string, act func(*vault.Vault, api.Tree) (api.Tree, api.Errno)) api.Errno {
	v, e := p.now.store.Vault()
	equal(p.t, "a vault", e, 0)
	x, e := act(v, p.tree(id))
	if e == 0 {
		p.now = world{grove.StoreFrom(v), with(p.now.coming, id, x), p.now.family.with(id, has)}
	} else {
		equal(p.t, "an error that there may be", e == errSpace || e == errRefs, true)
	}
	return e
}

// room: with as many pages free as are wanted, and no page that is reached from the tree led
// to as often as may be, there is no error (W4). What was there ahead of the call is handed in.
func (p *plain) room(what string, was *plain, id, pages int, e api.Errno) {
	left, mostLed := was.now.store.Tally(free)-pages, 0
	for n := range was.led(was.tree(id)) {
		mostLed = max(mostLed, was.now.store.Counts[n-1])
	}
	if e == errSpace && left >= 0 || e == errRefs && mostLed < was.now.store.Refs {
		p.t.Fatalf("%s: error %d, with %d free pages more than are wanted, and no count above %d", what, e, left, mostLed)
	}
	switch {
	case e == 0 && left == 0:
		p.met[what+" with just the room for it"]++
	case e == errSpace && left == -1:
		p.met[what+" with a page too few"]++
	}
}

func (p *plain) Put(id int, key, value []byte) (bool, api.Errno) {
	switch e := p.missing(id); {
	case e != 0:
		return false, e
	case wrongKey(key):
		return false, errKey
	case len(value) > maxValue:
		return false, errValue
	}
	b := 0
	if len(value) > inline {
		b = (len(value) + chunk - 1) / chunk
	}
	was, h := *p, p.tree(id).Height
	_, had := p.now.family[id][string(key)]
	has := maps.Clone(p.now.family[id])
	has[string(key)] = string(value)
	e := p.turned(id, has, func(v *vault.Vault, x api.Tree) (api.Tree, api.Errno) {
		x, _, e := put.Put(v, x, key, value)
		return x, e
	})
	p.room("Put", &was, id, 2*h+1+b, e)
	return had && e == 0, e
}

func (p *plain) Delete(id int, key []byte) (bool, api.Errno) {
	switch e := p.missing(id); {
	case e != 0:
		return false, e
	case wrongKey(key):
		return false, errKey
	}
	was, h := *p, p.tree(id).Height
	_, had := p.now.family[id][string(key)]
	has := maps.Clone(p.now.family[id])
	delete(has, string(key))
	e := p.turned(id, has, func(v *vault.Vault, x api.Tree) (api.Tree, api.Errno) {
		x, _, e := cut.Cut(v, x, key)
		return x, e
	})
	p.room("Delete", &was, id, 2*h-1, e)
	return had && e == 0, e
}

func (p *plain) Trim(id int, r api.Range) (int, api.Errno) {
	if e := p.missing(id); e != 0 {
		return 0, e
	}
	has := maps.Clone(p.now.family[id])
	maps.DeleteFunc(has, func(k, _ string) bool { return lies(r, k) })
	n := len(p.now.family[id]) - len(has)
	e := p.turned(id, has, func(v *vault.Vault, x api.Tree) (api.Tree, api.Errno) {
		x, _, e := bulk.Trim(v, x, r)
		return x, e
	})
	if e != 0 {
		return 0, e
	}
	return n, 0
}

func (p *plain) Get(id int, key []byte) ([]byte, bool, api.Errno) {
	switch e := p.missing(id); {
	case e != 0:
		return nil, false, e
	case wrongKey(key):
		return nil, false, errKey
	}
	value, has := p.now.family[id][string(key)]
	return []byte(value), has, 0
}

func (p *plain) List(id int, r api.Range) ([]api.Pair, api.Errno) {
	if e := p.missing(id); e != 0 {
		return nil, e
	}
	m := p.now.family[id]
	var l []api.Pair
	for _, k := range slices.Sorted(maps.Keys(m)) {
		if lies(r, k) {
			l = append(l, api.Pair{Key: []byte(k), Value: []byte(m[k])})
		}
	}
	return l, 0
}

func (p *plain) Scan(id int, r api.Range) (iter.Seq2[[]byte, []byte], api.Errno) {
	l, e := p.List(id, r)
	if e != 0 {
		return nil, e
	}
	return func(yield func([]byte, []byte) bool) {
		for _, x := range l {
			if !yield(x.Key, x.Value) {
				return
			}
		}
	}, 0
}

func (p *plain) Swap(a, b int) api.Errno {
	if e := p.missing(a, b); e != 0 {
		return e
	}
	x, y := p.tree(a), p.tree(b)
	m, n := p.now.family[a], p.now.family[b]
	p.now = world{p.now.store, with(with(p.now.coming, a, y), b, x), p.now.family.with(a, n).with(b, m)}
	return 0
}

func (p *plain) All(do func() api.Errno) api.Errno {
	if p.dead {
		return errDown
	}
	if do == nil {
		return errArg
	}
	was := p.now
	p.within++
	e := do()
	p.within--
	if e != 0 {
		p.now = was
	}
	return e
}

func (p *plain) Commit() api.Errno {
	switch {
	case p.dead:
		return errDown
	case p.within > 0:
		return errArg
	case p.now.coming.Gen == maxGen+1:
		return errMany
	}
	v, e := p.now.store.Vault()
	equal(p.t, "a vault", e, 0)
	if commit.Write(p.d, p.now.coming, v) != 0 {
		p.dead = true
		return errDown
	}
	store := p.now.store.Copy()
	store.Settle()
	p.now.store = store
	p.now.coming.Gen++
	return 0
}

func (p *plain) Roots() []api.Root   { return p.now.coming.Roots }
func (p *plain) Super() api.Super    { return p.now.coming }
func (p *plain) Tally(state int) int { return p.now.store.Tally(state) }
func (p *plain) Counts() []int       { return p.now.store.Counts }
func (p *plain) Dead() bool          { return p.dead }

// led is how often each page that is reached from trees is led to.
func (p *plain) led(trees ...api.Tree) map[int]int {
	led := map[int]int{}
	var next []int
	for _, x := range trees {
		if x.Root != 0 {
			next = append(next, x.Root)
		}
	}
	for ; len(next) > 0; next = next[1:] {
		if led[next[0]]++; led[next[0]] == 1 {
			next = append(next, grove.LeadsTo(p.now.store.On[next[0]-1])...)
		}
	}
	return led
}

func (p *plain) Reach(id int) ([]int, api.Errno) {
	if e := p.missing(id); e != 0 {
		return nil, e
	}
	return slices.Sorted(maps.Keys(p.led(p.tree(id)))), 0
}

func (p *plain) Check() (api.Report, api.Errno) {
	if p.dead {
		return api.Report{}, errDown
	}
	x := api.Report{Trees: len(p.now.coming.Roots)}
	for k, c := range p.now.store.Counts {
		if c == 0 {
			continue
		}
		x.Pages++
		switch p.now.store.On[k].Kind {
		case leafKind:
			x.Leaves++
		case indexKind:
			x.Index++
		case blobKind:
			x.Blobs++
		}
	}
	for _, m := range p.now.family {
		x.Items += len(m)
		for _, v := range m {
			x.Bytes += len(v)
		}
	}
	return x, 0
}

// right: the count of each page is how many items, Nexts and trees lead to it (W3).
func (p *plain) right() {
	p.t.Helper()
	var trees []api.Tree
	for _, r := range p.now.coming.Roots {
		trees = append(trees, r.Tree)
	}
	led := p.led(trees...)
	for k, c := range p.now.store.Counts {
		equal(p.t, fmt.Sprintf("the count of page %d", k+1), c, led[k+1])
	}
}
