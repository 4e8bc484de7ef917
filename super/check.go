package super

import (
	"slices"

	"coppice/api"
)

func withinLimits(s api.Super) bool {
	return isFrom(s.Gen, 0, api.MaxGen) &&
		isFrom(s.Next, 1, api.MaxId+1) &&
		len(s.Roots) <= s.Config.Clones
}

// idsRise: is each id one that was given out, and above the one ahead of it?
func idsRise(s api.Super) bool {
	last := 0
	for _, r := range s.Roots {
		if !isFrom(r.Id, last+1, s.Next-1) {
			return false
		}
		last = r.Id
	}
	return true
}

func treesCanBe(p api.Plan, roots []api.Root) bool {
	return !slices.ContainsFunc(roots, func(r api.Root) bool { return !canBe(p, r.Tree) })
}

func canBe(p api.Plan, t api.Tree) bool {
	return t == api.Tree{} ||
		isPage(p, t.Root) &&
			isFrom(t.Height, 1, api.MaxHeight) &&
			isFrom(t.Items, 1, p.Pages*api.Most)
}
