package span

import "coppice/api"

// Has tells whether a key lies in a range.
func Has(r api.Range, k []byte) bool {
	return isKey(k) && Compare(k, r.Lo) >= 0 && (r.Open || Compare(k, r.Hi) < 0)
}

// Empty tells whether no key lies in a range.
func Empty(r api.Range) bool { return !Has(r, least(r.Lo)) }

// Equal tells whether the same keys lie in two ranges.
func Equal(a, b api.Range) bool {
	// Where no key lies in a range, what stands for its form has no bytes as Lo,
	// as no form has.
	x, _ := oneForm(a)
	y, _ := oneForm(b)
	return Compare(x.Lo, y.Lo) == 0 && Compare(x.Hi, y.Hi) == 0 && x.Open == y.Open
}

// Meet is the range of the keys that lie in both.
func Meet(a, b api.Range) api.Range {
	m := api.Range{Lo: copied(greater(a.Lo, b.Lo))}
	switch {
	case a.Open && b.Open:
		m.Open = true
	case a.Open:
		m.Hi = copied(b.Hi)
	case b.Open:
		m.Hi = copied(a.Hi)
	default:
		m.Hi = copied(lesser(a.Hi, b.Hi))
	}
	return m
}

// Above is the range of the keys that begin with these bytes.
func Above(p []byte) api.Range {
	hi := behind(p)
	return api.Range{Lo: copied(p), Hi: hi, Open: len(hi) == 0}
}

// Split is a range below a key, and from it on.
func Split(r api.Range, k []byte) (api.Range, api.Range) {
	return Meet(r, api.Range{Hi: k}), Meet(r, api.Range{Lo: k, Open: true})
}

func greater(a, b []byte) []byte {
	if Compare(a, b) < 0 {
		return b
	}
	return a
}

func lesser(a, b []byte) []byte {
	if Compare(a, b) < 0 {
		return a
	}
	return b
}
