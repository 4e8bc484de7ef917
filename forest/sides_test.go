package forest_test

import (
	"maps"
	"slices"

	"coppice/api"
	"coppice/cut"
	"coppice/put"
	"coppice/vault"
)

// What differs between maps, and what comes of three of them, as the document says it.

func (p *plain) Diff(a, b int, r api.Range) ([]api.Change, api.Errno) {
	if e := p.missing(a, b); e != 0 {
		return nil, e
	}
	m, n := p.now.family[a], p.now.family[b]
	var l []api.Change
	for _, k := range keysOf(m, n) {
		old, was := m[k]
		now, is := n[k]
		x := api.Change{Key: []byte(k), Old: []byte(old), New: []byte(now)}
		switch {
		case !lies(r, k) || was && is && old == now:
			continue
		case !was:
			x.Kind = api.Added
		case !is:
			x.Kind = api.Removed
		default:
			x.Kind = api.Changed
		}
		l = append(l, x)
	}
	return l, 0
}

// keysOf is the keys of maps, rising, each once.
func keysOf(all ...map[string]string) []string {
	var l []string
	for _, m := range all {
		l = slices.AppendSeq(l, maps.Keys(m))
	}
	slices.Sort(l)
	return slices.Compact(l)
}

// side is what a map has at a key: its value there, or nothing.
type side struct {
	is    bool
	value string
}

func at(m map[string]string, k string) side {
	value, is := m[k]
	return side{is, value}
}

func (p *plain) Merge(base, ours, theirs, rule int) ([]api.Conflict, api.Errno) {
	if p.dead {
		return nil, errDown
	}
	if rule < mergeFail || rule > byTheirs {
		return nil, errArg
	}
	if e := p.missing(base, ours, theirs); e != 0 {
		return nil, e
	}
	m, n, o := p.now.family[base], p.now.family[ours], p.now.family[theirs]
	has, conflicts := maps.Clone(n), []api.Conflict(nil)
	var turned []string
	for _, k := range keysOf(m, n, o) {
		was, here, there := at(m, k), at(n, k), at(o, k)
		isConflict := here != was && there != was && here != there
		if isConflict {
			conflicts = append(conflicts, api.Conflict{
				Key: []byte(k), Base: []byte(was.value), Ours: []byte(here.value), Theirs: []byte(there.value), Has: [3]bool{was.is, here.is, there.is},
			})
		}
		if here == there || here != was && (!isConflict || rule != byTheirs) {
			continue
		}
		turned = append(turned, k)
		has[k] = there.value
		if !there.is {
			delete(has, k)
		}
	}
	if rule == mergeFail && len(conflicts) > 0 {
		return conflicts, errMerge
	}
	e := p.turned(ours, has, func(v *vault.Vault, x api.Tree) (api.Tree, api.Errno) { return stepped(v, x, turned, has) })
	if e != 0 {
		return nil, e
	}
	return conflicts, 0
}

// stepped is a tree that has at these keys what a map has there.
func stepped(v *vault.Vault, x api.Tree, keys []string, has map[string]string) (api.Tree, api.Errno) {
	for _, k := range keys {
		e := api.Errno(0)
		if value, is := has[k]; is {
			x, _, e = put.Put(v, x, []byte(k), []byte(value))
		} else {
			x, _, e = cut.Cut(v, x, []byte(k))
		}
		if e != 0 {
			return x, e
		}
	}
	return x, 0
}
