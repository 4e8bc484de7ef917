package super

import (
	"coppice/api"
	"coppice/seal"
	"coppice/wire"
)

// mark is what each superblock begins with: the bytes 43 4f 50 31.
const mark uint32 = 'C' | 'O'<<8 | 'P'<<16 | '1'<<24

// parts is all that a block says. Each number is as wide as it stands there, so that
// two blocks that say the same have the same parts, and parts can be compared.
type parts struct {
	mark   uint32
	gen    uint64
	config config
	next   uint32
	many   uint8
	rows   [api.MaxClones]row // those behind the last root stay 0 and are not written
}

type config struct {
	blocks uint32
	clones uint8
	refs   uint32
}

// row is a root with its tree.
type row struct {
	id, root uint32
	height   uint8
	items    uint32
}

// partsOf is what the block of a superblock that Check takes says.
func partsOf(s api.Super) parts {
	p := parts{
		mark:   mark,
		gen:    uint64(s.Gen),
		config: config{uint32(s.Config.Blocks), uint8(s.Config.Clones), uint32(s.Config.Refs)},
		next:   uint32(s.Next),
		many:   uint8(len(s.Roots)),
	}
	for i, r := range s.Roots {
		p.rows[i] = row{uint32(r.Id), uint32(r.Tree.Root), uint8(r.Tree.Height), uint32(r.Tree.Items)}
	}
	return p
}

// super is the superblock that parts say, whether Check takes it or not. Of more rows
// than there can be the first ones are taken: partsOf tells the difference.
func (p parts) super() api.Super {
	s := api.Super{
		Gen:    int(p.gen),
		Config: api.Config{Blocks: int(p.config.blocks), Clones: int(p.config.clones), Refs: int(p.config.refs)},
		Next:   int(p.next),
	}
	for _, r := range p.rows[:p.has()] {
		t := api.Tree{Root: int(r.root), Height: int(r.height), Items: int(r.items)}
		s.Roots = append(s.Roots, api.Root{Id: int(r.id), Tree: t})
	}
	return s
}

// has is how many rows stand in the block.
func (p parts) has() int { return min(int(p.many), len(p.rows)) }

func (p parts) block() []byte {
	w := wire.NewWriter(api.BlockSize)
	wire.Put(w, p.mark)
	wire.Put(w, p.gen)
	wire.Put(w, p.config.blocks)
	wire.Put(w, p.config.clones)
	wire.Put(w, p.config.refs)
	wire.Put(w, p.next)
	wire.Put(w, p.many)
	for _, r := range p.rows[:p.has()] {
		wire.Put(w, r.id)
		wire.Put(w, r.root)
		wire.Put(w, r.height)
		wire.Put(w, r.items)
	}
	b, _ := seal.Close(w) // it always has room: MaxClones rows end at byte 234
	return b
}

func readParts(r *wire.Reader) parts {
	var p parts
	p.mark = wire.Get[uint32](r)
	p.gen = wire.Get[uint64](r)
	p.config.blocks = wire.Get[uint32](r)
	p.config.clones = wire.Get[uint8](r)
	p.config.refs = wire.Get[uint32](r)
	p.next = wire.Get[uint32](r)
	p.many = wire.Get[uint8](r)
	for i := range p.has() {
		p.rows[i].id = wire.Get[uint32](r)
		p.rows[i].root = wire.Get[uint32](r)
		p.rows[i].height = wire.Get[uint8](r)
		p.rows[i].items = wire.Get[uint32](r)
	}
	return p
}
