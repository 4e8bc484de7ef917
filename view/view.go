// Package view gives the tests of several layers pages and vaults as texts, by which
// they are held against each other: nil and an empty list are the same there.
package view

import (
	"strconv"
	"strings"

	"coppice/api"
	"coppice/vault"
)

// Item is an item as a text.
func Item(i api.Item) string {
	return bytes(i.Key) + "=" + bytes(i.Value) + ">" + strconv.Itoa(i.Child) + "#" + strconv.Itoa(i.Size)
}

// Page is a page as a text.
func Page(p api.Page) string {
	l := []string{strconv.Itoa(p.Kind) + "/" + strconv.Itoa(p.Level)}
	for _, i := range p.Items {
		l = append(l, Item(i))
	}
	return strings.Join(append(l, bytes(p.Data)+">"+strconv.Itoa(p.Next)), " ")
}

// Vault is all that can be seen of a vault without changing it, but for Mark.
func Vault(v *vault.Vault) string {
	l := []string{numbers(v.Len(), v.Refs()), numbers(v.Counts()...)}
	for n := 0; n <= v.Len()+1; n++ {
		p, e := v.Read(n)
		l = append(l, numbers(n, v.Count(n), v.State(n), int(e)), Page(p))
	}
	for state := api.Free; state <= api.Held; state++ {
		l = append(l, numbers(state, v.Tally(state)))
		for n, p := range v.Pages(state) {
			l = append(l, numbers(n), Page(p))
		}
	}
	return strings.Join(l, "; ")
}

func numbers(l ...int) string {
	var words []string
	for _, n := range l {
		words = append(words, strconv.Itoa(n))
	}
	return strings.Join(words, " ")
}

// bytes is a row of bytes, each as two digits.
func bytes(b []byte) string {
	const digits = "0123456789abcdef"
	var s strings.Builder
	for _, x := range b {
		s.WriteByte(digits[x>>4])
		s.WriteByte(digits[x&15])
	}
	return s.String()
}
