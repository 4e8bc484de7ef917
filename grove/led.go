package grove

import (
	"coppice/api"
	"coppice/vault"
)

// Led is how often each page that is reached from these trees is led to, by them and by
// what is reached from them; a tree that is named several times counts each time.
func Led(v *vault.Vault, trees ...api.Tree) map[int]int {
	led := map[int]int{}
	var lead func(n int)
	lead = func(n int) {
		led[n]++
		if led[n] > 1 {
			return
		}
		p, _ := v.Read(n)
		for _, kid := range LeadsTo(p) {
			lead(kid)
		}
	}
	for _, t := range trees {
		if t.Root != 0 {
			lead(t.Root)
		}
	}
	return led
}
