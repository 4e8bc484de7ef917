package page

import (
	"coppice/api"
	"coppice/wire"
)

// Kinds of pages, by the numbers that package api gives them.
const (
	_ = iota
	leaf
	index
	blob
)

// Tags of the parts of a block, in the order of the chapter's table.
const (
	kindPart = iota
	levelPart
	noPart
	genPart
	itemsPart
	keyPart
	sizePart
	valuePart // or the page on which the value begins
	childPart
	dataPart
)

// headParts are those that each block begins with.
func headParts() []int { return []int{kindPart, levelPart, noPart, genPart} }

// bodyParts are those behind them in the block of a kind; a kind that is none has
// none.
func bodyParts(kind int) []int {
	switch kind {
	case leaf, index:
		return []int{itemsPart}
	case blob:
		return []int{dataPart}
	}
	return nil
}

// itemParts are those of each item of a leaf or an index.
func itemParts(kind int) []int {
	if kind == index {
		return []int{keyPart, childPart}
	}
	return []int{keyPart, sizePart, valuePart}
}

// content is what a block tells, but for its sum.
type content struct {
	no, gen int
	page    api.Page
}

func (c content) write(w *wire.Writer) {
	for _, tag := range headParts() {
		c.writePart(w, tag)
	}
	for _, tag := range bodyParts(c.page.Kind) {
		c.writePart(w, tag)
	}
}

func (c content) writePart(w *wire.Writer, tag int) {
	switch tag {
	case kindPart:
		wire.Put(w, uint8(c.page.Kind))
	case levelPart:
		wire.Put(w, uint8(c.page.Level))
	case noPart:
		wire.Put(w, uint32(c.no))
	case genPart:
		wire.Put(w, uint64(c.gen))
	case itemsPart:
		wire.Put(w, uint8(len(c.page.Items)))
		for _, it := range c.page.Items {
			writeItem(w, c.page.Kind, it)
		}
	case dataPart:
		wire.Put(w, uint16(len(c.page.Data)))
		wire.Put(w, uint32(c.page.Next))
		w.Raw(c.page.Data)
	}
}

func writeItem(w *wire.Writer, kind int, it api.Item) {
	for _, tag := range itemParts(kind) {
		if tag == valuePart && !standsHere(it) {
			tag = childPart
		}
		switch tag {
		case keyPart:
			w.Short(it.Key)
		case sizePart:
			wire.Put(w, uint16(it.Size))
		case valuePart:
			w.Raw(it.Value)
		case childPart:
			wire.Put(w, uint32(it.Child))
		}
	}
}

// read takes up what stands there, right or wrong: what is no part at all is the
// reader's error, all else is left to those who look at the content.
func (c *content) read(r *wire.Reader) {
	for _, tag := range headParts() {
		c.readPart(r, tag)
	}
	for _, tag := range bodyParts(c.page.Kind) {
		c.readPart(r, tag)
	}
}

func (c *content) readPart(r *wire.Reader, tag int) {
	switch tag {
	case kindPart:
		c.page.Kind = int(wire.Get[uint8](r))
	case levelPart:
		c.page.Level = int(wire.Get[uint8](r))
	case noPart:
		c.no = int(wire.Get[uint32](r))
	case genPart:
		// One above the greatest int becomes negative: no generation either way.
		c.gen = int(wire.Get[uint64](r))
	case itemsPart:
		c.page.Items = make([]api.Item, wire.Get[uint8](r))
		for i := range c.page.Items {
			c.page.Items[i] = readItem(r, c.page.Kind)
		}
	case dataPart:
		n := int(wire.Get[uint16](r))
		c.page.Next = int(wire.Get[uint32](r))
		c.page.Data = r.Raw(n)
	}
}

func readItem(r *wire.Reader, kind int) api.Item {
	var it api.Item
	for _, tag := range itemParts(kind) {
		if tag == valuePart && !standsHere(it) {
			tag = childPart
		}
		switch tag {
		case keyPart:
			it.Key = r.Short(api.MaxKey)
		case sizePart:
			it.Size = int(wire.Get[uint16](r))
		case valuePart:
			it.Value = r.Raw(it.Size)
		case childPart:
			it.Child = int(wire.Get[uint32](r))
		}
	}
	return it
}
