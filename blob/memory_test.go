package blob_test

import (
	"bytes"
	"slices"
	"testing"

	"coppice/api"
	"coppice/blob"
	"coppice/view"
)

// mark fills the spare room of lists.
const mark = 0xC3

// spare is how many bytes of spare room there are: some pages' worth.
const spare = 2 * chunk

// room is the bytes with spare room behind them, all of it marked.
func room(b []byte) []byte {
	all := append(slices.Clone(b), bytes.Repeat([]byte{mark}, spare)...)
	return all[:len(b)]
}

// untouched: are the bytes of room and their spare room as they were?
func untouched(b, was []byte) bool {
	return bytes.Equal(b, was) && bytes.Equal(b[len(b):len(b)+spare], bytes.Repeat([]byte{mark}, spare))
}

// turn turns all bytes of a list, its spare room too.
func turn(b []byte) {
	b = b[:cap(b)]
	for i := range b {
		b[i] ^= 0xA5
	}
}

// What Store is handed is neither changed nor kept.
func TestR4StoreIsHanded(t *testing.T) {
	for _, n := range sizes() {
		for _, frees := range [][]int{{1, 2, 3, 4, 5, 6, 7, 8}, {3}, {2, 5, 6}} {
			v := withFree(t, 9, frees...)
			key, val := room([]byte("key")), room(value(n))
			i, e := blob.Store(v, key, val)
			equal(t, "untouched", untouched(key, []byte("key")) && untouched(val, value(n)), true)
			seen, was := view.Vault(v), view.Item(i)
			turn(key)
			turn(val)
			equal(t, "the item", view.Item(i), was)
			equal(t, "the vault", view.Vault(v), seen)
			if e == 0 {
				loads(t, v, i, value(n))
			}
		}
	}
	v := newVault(t, 1)
	key, val := room(make([]byte, maxKey+1)), room(value(maxValue+1))
	storesNot(t, v, key, val, errKey)
	storesNot(t, v, key[:1], val, errValue)
	equal(t, "untouched", untouched(key, make([]byte, maxKey+1)) && untouched(val, value(maxValue+1)), true)
}

// What Store answers is new memory: when it is spoiled, what was handed in, what stands
// in the vault and another answer stay as they are.
func TestR4StoreAnswers(t *testing.T) {
	for _, n := range sizes() {
		v := newVault(t, 16)
		key, val := room([]byte("key")), room(value(n))
		i, j := stores(t, v, key, val), stores(t, v, key, val)
		seen, was := view.Vault(v), view.Item(j)
		turn(i.Key)
		turn(i.Value)
		equal(t, "untouched", untouched(key, []byte("key")) && untouched(val, value(n)), true)
		equal(t, "another item", view.Item(j), was)
		equal(t, "the vault", view.Vault(v), seen)
		loads(t, v, j, value(n))
	}
}

// A key and a value that share memory: the item's own share none.
func TestR4KeyAndValueOfOneList(t *testing.T) {
	for _, n := range []int{1, 20, maxKey} {
		all := value(n)
		v := newVault(t, 1)
		i := stores(t, v, all, all)
		turn(i.Key)
		equal(t, "Value", string(i.Value), string(value(n)))
		turn(i.Key)
		turn(i.Value)
		equal(t, "Key", string(i.Key), string(value(n)))
		equal(t, "what was handed in", string(all), string(value(n)))
	}
}

// What Load is handed is neither changed nor kept, and what it answers is new memory.
func TestR4Load(t *testing.T) {
	for _, n := range sizes() {
		v := newVault(t, 8)
		i := stores(t, v, []byte("key"), value(n))
		i.Key, i.Value = room(i.Key), room(i.Value)
		key, val := slices.Clone(i.Key), slices.Clone(i.Value)
		seen := view.Vault(v)
		a, _ := blob.Load(v, i)
		b, _ := blob.Load(v, i)
		turn(a)
		equal(t, "untouched", untouched(i.Key, key) && untouched(i.Value, val), true)
		equal(t, "another answer", string(b), string(value(n)))
		equal(t, "the vault", view.Vault(v), seen)
		turn(i.Key)
		turn(i.Value)
		equal(t, "the answer", string(b), string(value(n)))
		equal(t, "the vault", view.Vault(v), seen)
	}
}

// What Load refuses, and what Release is handed, is not changed.
func TestR4RefusedAndReleased(t *testing.T) {
	pages := []api.Page{B(480, 2), B(20, 0), L("a")}
	v := vaultOf(t, pages...)
	for _, size := range []int{-1, 0, 5, 32, 33, 480, 501, maxValue, maxValue + 1} {
		for child := range 4 {
			i := api.Item{Key: room([]byte("k")), Value: room(value(6)), Size: size, Child: child}
			_, want := modelLoad(pages, i)
			loadsNot(t, v, i, want)
			began := v.Mark()
			blob.Release(v, i)
			v.Undo(began)
			equal(t, "untouched", untouched(i.Key, []byte("k")) && untouched(i.Value, value(6)), true)
		}
	}
}

// nil and an empty list are the same, and so is any spare room.
func TestR3R5Lists(t *testing.T) {
	v, w := newVault(t, 1), newVault(t, 1)
	i, j := stores(t, v, []byte("k"), nil), stores(t, w, room([]byte("k")), []byte{})
	equal(t, "the item", view.Item(i), view.Item(j))
	storesNot(t, v, nil, value(maxValue+1), errKey)
	storesNot(t, v, []byte{}, value(maxValue+1), errKey)
	storesNot(t, v, room(nil), nil, errKey)
	for _, value := range [][]byte{nil, {}, room(nil)} {
		loads(t, v, api.Item{Value: value}, nil)
		loadsNot(t, v, api.Item{Value: value, Size: 1}, errValue)
		loadsNot(t, v, api.Item{Value: value, Size: inline}, errValue)
	}
	for _, n := range sizes() {
		v, w := newVault(t, 8), newVault(t, 8)
		i, j := stores(t, v, []byte("k"), value(n)), stores(t, w, room([]byte("k")), room(value(n)))
		equal(t, "the item", view.Item(i), view.Item(j))
		equal(t, "the vault", view.Vault(v), view.Vault(w))
	}
}
