package fork

import (
	"coppice/api"
	"coppice/page"
	"coppice/vault"
)

// leads is how often each page that is reached from trees is led to, by them and by what
// is reached from them.
func leads(v *vault.Vault, trees ...api.Tree) (map[int]int, api.Errno) {
	return meet(v, func(_, times int) bool { return times == 1 }, trees...)
}

// drops is by how much the count of each page would be less, were a tree dropped.
func drops(v *vault.Vault, t api.Tree) (map[int]int, api.Errno) {
	// Only a page that nothing leads to any more lets go of what it leads to.
	return meet(v, func(n, times int) bool { return times == v.Count(n) }, t)
}

// meet goes from the roots of trees to where pages lead, and tells how often each page is
// met. A page is gone into when opens says so, of its number and of how often it has been
// met: at one time at most, so that it ends wherever pages lead.
func meet(v *vault.Vault, opens func(n, times int) bool, trees ...api.Tree) (map[int]int, api.Errno) {
	met := map[int]int{}
	next := roots(trees...)
	if v == nil && len(next) > 0 {
		return nil, api.ErrPage
	}
	for len(next) > 0 {
		n := next[len(next)-1]
		next = next[:len(next)-1]
		met[n]++
		if !opens(n, met[n]) {
			continue
		}
		p, e := v.Read(n)
		if e != api.OK {
			return nil, e
		}
		next = append(next, page.Kids(p)...)
	}
	return met, api.OK
}

// roots are the roots of trees, each as often as it is one.
func roots(trees ...api.Tree) []int {
	var l []int
	for _, t := range trees {
		if t.Root != 0 {
			l = append(l, t.Root)
		}
	}
	return l
}
