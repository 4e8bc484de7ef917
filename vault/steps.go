package vault

import (
	"bytes"

	"coppice/api"
	"coppice/page"
)

// What one of these steps has begun is not undone by itself, where it fails: end
// does that for the whole call.

// less makes a page's count one less, and tells it. On a page that is given back
// nothing stands any more; on one that lasts it does.
func (v *Vault) less(n int) (int, api.Errno) {
	c, e := v.Dec(n)
	if e == api.OK && v.State(n) == api.Free {
		v.lay(n, api.Page{})
	}
	return c, e
}

// more makes the count of each page to which p leads one more.
func (v *Vault) more(p api.Page) api.Errno {
	for _, kid := range page.Kids(p) {
		if e := v.Inc(kid); e != api.OK {
			return e
		}
	}
	return api.OK
}

// leave is what stands on a page, one place fewer leading there: it is to stand
// elsewhere too, so that what it leads to is led to from there as well, unless
// nothing leads to the page any more.
func (v *Vault) leave(n int) (api.Page, api.Errno) {
	p := v.on[n]
	c, e := v.less(n)
	if e == api.OK && c > 0 {
		e = v.more(p)
	}
	if e != api.OK {
		return api.Page{}, e
	}
	return p, api.OK
}

// shadow lays what stands on a page down on another one as well. That one is
// handed out first: ErrSpace stands ahead of ErrRefs.
func (v *Vault) shadow(n int) (int, api.Errno) {
	s, e := v.Alloc()
	if e != api.OK {
		return 0, e
	}
	p, e := v.leave(n)
	if e != api.OK {
		return 0, e
	}
	v.lay(s, p)
	return s, api.OK
}

// drop drops a page. It ends whatever leads where: each step makes a count less.
func (v *Vault) drop(n int) api.Errno {
	p := v.on[n]
	c, e := v.less(n)
	if e != api.OK || c > 0 {
		return e
	}
	for _, kid := range page.Kids(p) {
		if e := v.drop(kid); e != api.OK {
			return e
		}
	}
	return api.OK
}

// copyOf is the page in memory of its own.
func copyOf(p api.Page) api.Page {
	p.Items = append([]api.Item(nil), p.Items...)
	for i, it := range p.Items {
		p.Items[i].Key, p.Items[i].Value = bytes.Clone(it.Key), bytes.Clone(it.Value)
	}
	p.Data = bytes.Clone(p.Data)
	return p
}
