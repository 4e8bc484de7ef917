package grove

import (
	"bytes"
	"slices"

	"coppice/api"
	"coppice/vault"
)

// Store is pages with their counts and what stands on them, page n at the place n - 1.
type Store struct {
	Refs   int
	On     []api.Page // the zero Page: nothing
	Counts []int
	Lasts  []int // 1: something in what lasts leads to it
}

// StoreOf is a store of pages, each with the count 1, none of which lasts; the zero
// Page: it is free, and so are some more behind them.
func StoreOf(refs int, pages []api.Page, more int) *Store {
	n := len(pages) + more
	s := &Store{Refs: refs, On: make([]api.Page, n), Counts: make([]int, n), Lasts: make([]int, n)}
	for k, p := range pages {
		if p.Kind != 0 {
			s.On[k], s.Counts[k] = p, 1
		}
	}
	return s
}

// StoreFrom is a store that has what a vault has.
func StoreFrom(v *vault.Vault) *Store {
	s := StoreOf(v.Refs(), nil, v.Len())
	s.Counts = v.Counts()
	for _, state := range []int{api.Pending, api.Fresh, api.Held} {
		for n, p := range v.Pages(state) {
			s.On[n-1] = p
			if state != api.Fresh {
				s.Lasts[n-1] = 1
			}
		}
	}
	return s
}

// Copy is another store that has the same.
func (s *Store) Copy() *Store {
	return &Store{s.Refs, slices.Clone(s.On), slices.Clone(s.Counts), slices.Clone(s.Lasts)}
}

// Differs is the first page that is another one in a vault, by its count, its state or
// what stands on it; 0: none is.
func (s *Store) Differs(v *vault.Vault) int {
	other := StoreFrom(v)
	if len(other.Counts) != len(s.Counts) || other.Refs != s.Refs {
		return len(s.Counts) + 1
	}
	for k := range s.Counts {
		if s.State(k+1) != other.State(k+1) || s.Counts[k] != other.Counts[k] {
			return k + 1
		}
		// On a free page nothing stands any more, whatever the store has left there.
		if s.State(k+1) != api.Free && !Same(s.On[k], other.On[k]) {
			return k + 1
		}
	}
	return 0
}

// Same: does the same stand on two pages? nil and an empty list are the same.
func Same(p, q api.Page) bool {
	sameItem := func(i, j api.Item) bool {
		return bytes.Equal(i.Key, j.Key) && bytes.Equal(i.Value, j.Value) && i.Child == j.Child && i.Size == j.Size
	}
	return p.Kind == q.Kind && p.Level == q.Level && p.Next == q.Next && bytes.Equal(p.Data, q.Data) && slices.EqualFunc(p.Items, q.Items, sameItem)
}

// Page is what stands on a page, with a list of items of its own.
func (s *Store) Page(n int) api.Page {
	p := s.On[n-1]
	p.Items = slices.Clone(p.Items)
	return p
}

// State is a page's state.
func (s *Store) State(n int) int {
	isCounted, lasts := s.Counts[n-1] > 0, s.Lasts[n-1] == 1
	switch {
	case isCounted && lasts:
		return api.Held
	case isCounted:
		return api.Fresh
	case lasts:
		return api.Pending
	}
	return api.Free
}

// Tally is how many pages are in a state.
func (s *Store) Tally(state int) int {
	n := 0
	for k := range s.Counts {
		if s.State(k+1) == state {
			n++
		}
	}
	return n
}

// Make hands out the lowest free page.
func (s *Store) Make(p api.Page) (int, api.Errno) {
	for k := range s.Counts {
		if s.State(k+1) == api.Free {
			s.On[k], s.Counts[k] = p, 1
			return k + 1, api.OK
		}
	}
	return 0, api.ErrSpace
}

// LeadsTo is the pages to which a page leads, each as often as it does.
func LeadsTo(p api.Page) []int {
	var l []int
	for _, i := range p.Items {
		if i.Child != 0 {
			l = append(l, i.Child)
		}
	}
	if p.Next != 0 {
		l = append(l, p.Next)
	}
	return l
}

// Shadow shadows a page. With an error something may have been done: it is for a copy
// that is thrown away then.
func (s *Store) Shadow(n int) (int, api.Errno) {
	if s.State(n) == api.Fresh && s.Counts[n-1] == 1 {
		return n, api.OK
	}
	shadow, e := s.Make(s.On[n-1])
	if e != api.OK {
		return 0, e
	}
	if e := s.Take(n); e != api.OK {
		return 0, e
	}
	return shadow, api.OK
}

// Take takes a page. With an error it is as of Shadow.
func (s *Store) Take(n int) api.Errno {
	s.Counts[n-1]--
	if s.Counts[n-1] == 0 {
		return api.OK
	}
	for _, kid := range LeadsTo(s.On[n-1]) {
		if s.Counts[kid-1]++; s.Counts[kid-1] > s.Refs {
			return api.ErrRefs
		}
	}
	return api.OK
}

// Drop drops a page.
func (s *Store) Drop(n int) {
	s.Counts[n-1]--
	if s.Counts[n-1] > 0 {
		return
	}
	for _, kid := range LeadsTo(s.On[n-1]) {
		s.Drop(kid)
	}
}

// Settle makes what is now what lasts.
func (s *Store) Settle() {
	for k, c := range s.Counts {
		s.Lasts[k] = min(c, 1)
	}
}

// Vault is a vault that has the same. Up to there what was done can be undone.
func (s *Store) Vault() (*vault.Vault, api.Errno) {
	counts, l := make([]int, len(s.Counts)), []api.Numbered(nil)
	for k := range s.Counts {
		if s.Lasts[k] == 1 {
			counts[k] = max(s.Counts[k], 1)
			l = append(l, api.Numbered{No: k + 1, Page: s.On[k]})
		}
	}
	v, e := vault.Load(s.Refs, counts, l)
	if e != api.OK {
		return nil, e
	}
	return v, s.layFresh(v)
}

// layFresh lays down what does not last, and takes away what is there for a while only:
// pages are handed out from the lowest one on, the free ones too.
func (s *Store) layFresh(v *vault.Vault) api.Errno {
	none := api.Page{Kind: api.Leaf, Items: []api.Item{{Key: []byte("none")}}}
	for k, c := range s.Counts {
		if s.Lasts[k] == 1 {
			continue
		}
		p := s.On[k]
		if c == 0 {
			p = none
		}
		if _, e := v.Make(p); e != api.OK {
			return e
		}
		for range c - 1 {
			v.Keep(k + 1)
		}
	}
	for k, c := range s.Counts {
		if c == 0 {
			if _, e := v.Take(k + 1); e != api.OK { // unlike Drop it leaves all other counts
				return e
			}
		}
	}
	return api.OK
}
