package page

import (
	"bytes"

	"coppice/api"
)

// teller is told whether something is wrong, and which error that is.
type teller func(wrong bool, e api.Errno)

// faults are what keeps the first fault that it is told, and what answers it: OK, if
// there was none.
func faults() (tell teller, first func() api.Errno) {
	kept := api.OK
	tell = func(wrong bool, e api.Errno) {
		if wrong && kept == api.OK {
			kept = e
		}
	}
	return tell, func() api.Errno { return kept }
}

// checkForm looks at what a page of its kind has at all, and at how much of it.
func checkForm(p api.Page, tell teller) {
	switch p.Kind {
	case leaf:
		tell(p.Level != 0, api.ErrForm)
		tell(!hasItemsAlone(p, 1), api.ErrForm)
	case index:
		tell(p.Level < 1 || p.Level > api.MaxHeight-1, api.ErrForm)
		tell(!hasItemsAlone(p, 2), api.ErrForm)
	case blob:
		tell(p.Level != 0, api.ErrForm)
		tell(len(p.Items) > 0, api.ErrForm)
		tell(len(p.Data) < 1 || len(p.Data) > api.Chunk, api.ErrForm)
	default:
		tell(true, api.ErrKind)
	}
}

// hasItemsAlone: has the page as many items as it may have, and nothing of a blob?
func hasItemsAlone(p api.Page, fewest int) bool {
	return len(p.Items) >= fewest && len(p.Items) <= api.Most && len(p.Data) == 0 && p.Next == 0
}

// checkItem looks at item i of a leaf or an index.
func checkItem(p api.Page, i int, tell teller) {
	it := p.Items[i]
	if p.Kind == index && i == 0 {
		tell(len(it.Key) > 0, api.ErrKey)
	} else {
		tell(len(it.Key) < 1 || len(it.Key) > api.MaxKey, api.ErrKey)
	}
	tell(i > 0 && bytes.Compare(p.Items[i-1].Key, it.Key) >= 0, api.ErrOrder)
	if p.Kind == index {
		tell(len(it.Value) > 0 || it.Size != 0, api.ErrValue)
		tell(!isNumber(it.Child), api.ErrPage)
		return
	}
	checkValue(it, tell)
}

// checkValue looks at what a leaf's item says of its value.
func checkValue(it api.Item, tell teller) {
	tell(it.Size < 0 || it.Size > api.MaxValue, api.ErrValue)
	if standsHere(it) {
		tell(len(it.Value) != it.Size, api.ErrValue)
		tell(it.Child != 0, api.ErrPage)
	} else {
		tell(len(it.Value) > 0, api.ErrValue)
		tell(!isNumber(it.Child), api.ErrPage)
	}
}

// standsHere: does the value of a leaf's item stand in the leaf itself?
func standsHere(it api.Item) bool { return it.Size <= api.Inline }
