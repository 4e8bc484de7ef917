package node

import (
	"coppice/api"
	"coppice/span"
)

// Split is the two halves of a page that is full, and the separator between them.
func Split(p api.Page) (api.Page, api.Page, []byte, bool) {
	if !isMeant(p) || len(p.Items) != api.Most {
		return api.Page{}, api.Page{}, nil, false
	}
	return parted(with(p, first(p, api.Least)), with(p, from(p, api.Least)))
}

// Join is two neighbours as one page.
func Join(left, right api.Page, sep []byte) (api.Page, bool) {
	l, r := len(left.Items), len(right.Items)
	if !areAlike(left, right) || l < 1 || r < 1 || l+r > api.Most {
		return api.Page{}, false
	}
	return joined(left, right, sep), true
}

// Lend moves an item between two neighbours, to the right one or to the left one, and tells the new separator.
func Lend(left, right api.Page, sep []byte, toRight bool) (api.Page, api.Page, []byte, bool) {
	giver, taker, end := right, left, len(left.Items)+1
	if toRight {
		giver, taker, end = left, right, len(left.Items)-1
	}
	if !areAlike(left, right) || len(giver.Items) < 2 || len(taker.Items) < 1 || len(taker.Items) >= api.Most {
		return api.Page{}, api.Page{}, nil, false
	}
	// What is lent gets the keys that it would get by joining the two and splitting
	// them elsewhere.
	all := joined(left, right, sep)
	return parted(with(left, first(all, end)), with(right, from(all, end)))
}

// isMeant: is the page one of those that are split, joined and lent to?
func isMeant(p api.Page) bool { return p.Kind == api.Leaf || p.Kind == api.Index }

// areAlike: are both of one kind that is meant, and of one level?
func areAlike(left, right api.Page) bool {
	return isMeant(left) && left.Kind == right.Kind && left.Level == right.Level
}

// joined is the left page with the items of the right one, which has some, behind
// its own.
func joined(left, right api.Page, sep []byte) api.Page {
	head := right.Items[0]
	if right.Kind == api.Index {
		head.Key = sep
	}
	return with(left, left.Items, one(head), from(right, 1))
}

// parted is two neighbours whose items lie in memory of their own, and the separator
// between them. That of indexes is the right one's first Key, which goes from there.
func parted(left, right api.Page) (api.Page, api.Page, []byte, bool) {
	tail, head := left.Items[len(left.Items)-1], &right.Items[0]
	if right.Kind == api.Index {
		sep := head.Key
		head.Key = nil
		return left, right, sep, true
	}
	sep, found := span.Between(tail.Key, head.Key)
	if !found {
		return api.Page{}, api.Page{}, nil, false
	}
	return left, right, sep, true
}
