package disk

import "coppice/api"

// block is the bytes of a block.
type block [api.BlockSize]byte

// blockOf is the first bytes of a list, which has enough of them.
func blockOf(list []byte) block {
	var b block
	copy(b[:], list)
	return b
}

// list is the block as a list.
func (b block) list() []byte {
	list := make([]byte, len(b))
	copy(list, b[:])
	return list
}

// has: is there such a block?
func (d *Disk) has(i int) bool { return i >= 0 && i < d.blocks }

// shown is what a block shows.
func (d *Disk) shown(i int) block {
	if at, is := d.newest[i]; is {
		return d.unsynced[at].bytes
	}
	return d.lasting[i]
}

// settle lets a block's bytes last.
func (d *Disk) settle(i int, b block) {
	if b == (block{}) {
		delete(d.lasting, i)
		return
	}
	d.lasting[i] = b
}

// forget takes away the writes that were not synced.
func (d *Disk) forget() {
	d.unsynced = nil
	d.newest = map[int]int{}
}
