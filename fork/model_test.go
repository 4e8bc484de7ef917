package fork_test

import (
	"coppice/api"
	"coppice/grove"
)

// What the calls must tell, as the chapter says it, slow and plain, of a store of pages.

// reached is 1 for each page that is reached from a tree, from page 1 on.
func reached(s *grove.Store, x api.Tree) []int {
	is := make([]int, len(s.Counts))
	if x.Root == 0 {
		return is
	}
	is[x.Root-1] = 1
	for more := 1; more > 0; {
		more = 0
		for k := range is {
			if is[k] == 0 {
				continue
			}
			for _, kid := range grove.LeadsTo(s.On[k]) {
				more += 1 - is[kid-1]
				is[kid-1] = 1
			}
		}
	}
	return is
}

// modelCounts is how many of the trees have each page as their root, and how many items
// and Nexts of pages that are reached from them lead to it.
func modelCounts(s *grove.Store, l ...api.Tree) []int {
	counts, all := make([]int, len(s.Counts)), make([]int, len(s.Counts))
	for _, x := range l {
		if x.Root != 0 {
			counts[x.Root-1]++
		}
		for k, is := range reached(s, x) {
			all[k] |= is
		}
	}
	for k, is := range all {
		if is == 1 {
			for _, kid := range grove.LeadsTo(s.On[k]) {
				counts[kid-1]++
			}
		}
	}
	return counts
}

// modelOnly is the pages that are reached from a tree and from none of the others.
func modelOnly(s *grove.Store, x api.Tree, others ...api.Tree) []int {
	mine := reached(s, x)
	for _, y := range others {
		for k, is := range reached(s, y) {
			mine[k] &= 1 - is
		}
	}
	var l []int
	for k, is := range mine {
		if is == 1 {
			l = append(l, k+1)
		}
	}
	return l
}

// modelDrop is the store behind dropping a tree, and the pages that have no count then
// and had one.
func modelDrop(s *grove.Store, x api.Tree) (*grove.Store, []int) {
	then := s.Copy()
	if x.Root != 0 {
		then.Drop(x.Root)
	}
	var gone []int
	for k, c := range then.Counts {
		if c == 0 && s.Counts[k] > 0 {
			gone = append(gone, k+1)
		}
	}
	return then, gone
}

// modelClone is the store behind cloning a tree, and what is answered beside that.
func modelClone(s *grove.Store, x api.Tree) (*grove.Store, api.Tree, api.Errno) {
	then := s.Copy()
	if x.Root == 0 {
		return then, x, api.OK
	}
	if then.Counts[x.Root-1] == s.Refs {
		return then, empty, errRefs
	}
	then.Counts[x.Root-1]++
	return then, x, api.OK
}
