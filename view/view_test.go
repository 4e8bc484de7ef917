package view_test

import (
	"testing"

	"coppice/api"
	"coppice/vault"
	"coppice/view"
)

// All that a page says is seen.
func TestPage(t *testing.T) {
	pages := []api.Page{
		{}, {Kind: 1}, {Level: 1}, {Next: 1}, {Data: []byte{0}}, {Data: []byte{0, 0}}, {Data: []byte{0x10}}, {Data: []byte{0x01}},
		{Items: []api.Item{{}}}, {Items: []api.Item{{}, {}}}, {Items: []api.Item{{Key: []byte{0}}}}, {Items: []api.Item{{Value: []byte{0}}}},
		{Items: []api.Item{{Child: 1}}}, {Items: []api.Item{{Size: 1}}}, {Items: []api.Item{{}, {Size: 1}}},
	}
	for i, p := range pages {
		for k, q := range pages {
			if (view.Page(p) == view.Page(q)) != (i == k) {
				t.Errorf("%q and %q", view.Page(p), view.Page(q))
			}
		}
	}
	none := api.Page{Items: []api.Item{{Key: []byte{}, Value: []byte{}}}, Data: []byte{}}
	if view.Page(none) != view.Page(api.Page{Items: []api.Item{{}}}) {
		t.Error("nil and an empty list are not the same")
	}
	want := "1/0 61=7879>0#2 ab>3"
	p := api.Page{Kind: 1, Items: []api.Item{{Key: []byte("a"), Value: []byte("xy"), Size: 2}}, Data: []byte{0xab}, Next: 3}
	if got := view.Page(p); got != want {
		t.Errorf("%q, want %q", got, want)
	}
}

// Each act on a vault is seen, and nothing is, where nothing is done.
func TestVault(t *testing.T) {
	leaf := func(key string) api.Page { return api.Page{Kind: api.Leaf, Items: []api.Item{{Key: []byte(key)}}} }
	v, _ := vault.New(3, 3)
	seen := map[string]int{view.Vault(v): 0}
	for k, act := range []func(){
		func() { v.Make(leaf("a")) },
		func() { v.Write(1, leaf("b")) },
		func() { v.Keep(1) },
		func() { v.Make(leaf("c")) },
		func() { v.Settle() },
		func() { v.Shadow(1) },
		func() { v.Drop(2) },
		func() { v.Settle() },
	} {
		act()
		if before, twice := seen[view.Vault(v)]; twice {
			t.Errorf("behind act %d it looks as behind %d", k+1, before)
		}
		seen[view.Vault(v)] = k + 1
	}
	if view.Vault(v) != view.Vault(v) {
		t.Error("a look has changed it")
	}
}
