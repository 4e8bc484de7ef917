package span

import (
	"slices"

	"coppice/api"
)

// Cover is the keys of all these ranges as ranges that lie apart, rising.
func Cover(l []api.Range) []api.Range {
	// It is a list of its own: laid into that of the forms, it would share ends
	// with what is left of them in its spare room.
	var cover []api.Range
	for _, f := range risingForms(l) {
		last := len(cover) - 1
		if last >= 0 && reaches(cover[last], f.Lo) {
			cover[last] = prolonged(cover[last], f)
		} else {
			cover = append(cover, f)
		}
	}
	return cover
}

// risingForms is the forms of the ranges in which there are keys, by rising Lo.
func risingForms(l []api.Range) []api.Range {
	var forms []api.Range
	for _, r := range l {
		if f, is := oneForm(r); is {
			forms = append(forms, f)
		}
	}
	slices.SortFunc(forms, func(a, b api.Range) int { return Compare(a.Lo, b.Lo) })
	return forms
}

// oneForm is the form that all ranges have in which the same keys lie: both ends
// are keys, or there is no end. False, if no key lies there.
func oneForm(r api.Range) (api.Range, bool) {
	lo := least(r.Lo)
	if !Has(r, lo) {
		return api.Range{}, false
	}
	if r.Open {
		return api.Range{Lo: lo, Open: true}, true
	}
	hi := least(r.Hi)
	return api.Range{Lo: lo, Hi: hi, Open: len(hi) == 0}, true
}

// reaches tells whether no key lies behind the form r and below k. Where r has an
// end, that is such a key, unless k is not above it.
func reaches(r api.Range, k []byte) bool { return r.Open || Compare(k, r.Hi) <= 0 }

// prolonged is the form r, which reaches the form f, up to where the later one of
// both ends.
func prolonged(r, f api.Range) api.Range {
	if !r.Open && (f.Open || Compare(r.Hi, f.Hi) < 0) {
		r.Hi, r.Open = f.Hi, f.Open
	}
	return r
}
