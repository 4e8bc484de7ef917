package tuple_test

import (
	"bytes"
	"math"
	"testing"

	"coppice/api"
	"coppice/draw"
	"coppice/tuple"
)

// sign is how two places of a rising row stand to each other.
func sign(i, j int) int {
	switch {
	case i < j:
		return -1
	case i > j:
		return 1
	}
	return 0
}

func TestP3_2RisingValues(t *testing.T) {
	all := risingValues()
	for i, a := range all {
		for j, b := range all {
			if c := tuple.Compare(list(a), list(b)); c != sign(i, j) {
				t.Fatalf("Compare(%v, %v) = %d, want %d", a, b, c, sign(i, j))
			}
		}
	}
}

func TestP3_2NaNsAreTheSame(t *testing.T) {
	nans := append(otherNaNs, theNaN)
	for _, a := range nans {
		for _, b := range nans {
			x, y := fromBits(a), fromBits(b)
			compared(t, list(number(x)), list(number(y)), 0)
			compared(t, list(point(x, 1)), list(point(y, 1)), 0)
			compared(t, list(point(x, 1)), list(point(y, 2)), -1)
			compared(t, list(point(1, x)), list(point(1, y)), 0)
			compared(t, list(point(x, y)), list(point(y, x)), 0)
		}
		for _, x := range risingReals() {
			if x == x {
				compared(t, list(number(x)), list(number(fromBits(a))), -1)
				compared(t, list(point(x, 9)), list(point(fromBits(a), 1)), -1)
				compared(t, list(point(1, x)), list(point(1, fromBits(a))), -1)
			}
		}
	}
}

func TestP3_2Points(t *testing.T) {
	compared(t, list(point(1, 5)), list(point(2, -1)), -1)
	compared(t, list(point(minus, 5)), list(point(0, 4)), -1)
	compared(t, list(point(0, minus)), list(point(0, 0)), -1)
	compared(t, list(point(2, 1)), list(point(2, 1)), 0)
	compared(t, list(point(math.Inf(-1), math.Inf(1))), list(point(-1, math.Inf(-1))), -1)
}

// Of a struct that is not valid only the field counts that its kind names.
func TestP3_2StructsThatAreNotValid(t *testing.T) {
	full := func(kind int) api.Value {
		return api.Value{Kind: kind, Bool: true, Int: 5, Real: 2, Point: complex(3, 4), Text: "m"}
	}
	kinds := append([]int{0, 1, 2, 3, 4, 5}, strange...)
	for _, kind := range kinds {
		for _, f := range fields {
			a, b := full(kind), full(kind)
			f.set(&b)
			want := 0
			if f.kind == kind {
				want = modelValues(a, b)
			}
			compared(t, list(a), list(b), want)
		}
		for _, other := range kinds {
			compared(t, list(full(kind)), list(full(other)), sign(kind, other))
			compared(t, list(api.Value{Kind: kind}), list(full(other)), modelValues(api.Value{Kind: kind}, full(other)))
		}
		compared(t, list(full(kind)), nil, 1)
		compared(t, list(full(kind), none()), list(full(kind)), 1)
	}
	compared(t, list(api.Value{Kind: api.NilValue, Int: 9}), list(none()), 0)
	compared(t, list(api.Value{Kind: -1}), list(none()), -1)
	compared(t, list(api.Value{Kind: 6}), list(text("z")), 1)
}

func TestP3_2Lists(t *testing.T) {
	compared(t, nil, nil, 0)
	compared(t, nil, list(), 0)
	compared(t, nil, list(none()), -1)
	compared(t, list(none()), list(none(), none()), -1)
	compared(t, list(whole(2)), list(whole(1), whole(9)), 1)
	compared(t, list(whole(1), text("b")), list(whole(1), text("a"), text("z")), 1)
	compared(t, list(text("a"), text("b")), list(text("ab")), -1)
	compared(t, list(text("a"), none()), list(text("a\x00")), -1)
	few := fewValues()
	for i, a := range few {
		for j, b := range few {
			compared(t, list(none(), a), list(none(), b), sign(i, j))
			compared(t, list(a, b), list(b, a), sign(i, j))
			compared(t, list(b, a), list(b), 1)
		}
	}
}

func TestP3_2Rows(t *testing.T) {
	r := draw.Numbers(32)
	for range 20000 {
		a, b := someTuple(&r, 3), someTuple(&r, 3)
		compared(t, a, b, modelCompare(a, b))
	}
}

// ordered holds two tuples against their bytes.
func ordered(t *testing.T, a, b []api.Value) {
	t.Helper()
	x, e := tuple.Encode(a)
	y, f := tuple.Encode(b)
	if e != api.OK || f != api.OK {
		t.Fatalf("Encode(%v), Encode(%v): %d, %d", a, b, e, f)
	}
	if c, d := tuple.Compare(a, b), bytes.Compare(x, y); c != d {
		t.Fatalf("%v and %v: Compare %d, bytes %x and %x %d", a, b, c, x, y, d)
	}
}

func TestP3_7BytesAreOrderedAsCompareTells(t *testing.T) {
	all := risingValues()
	for _, a := range all {
		for _, b := range all {
			ordered(t, list(a), list(b))
		}
	}
	few := fewValues()
	for _, a := range few {
		for _, b := range few {
			for _, c := range few {
				ordered(t, list(a, b), list(c))
				ordered(t, list(a, b), list(a, c))
				ordered(t, list(a, b, c), list(a, c))
				ordered(t, list(a, b), list(c, b))
			}
		}
	}
	for _, b := range otherNaNs {
		for _, a := range all {
			ordered(t, list(a), list(number(fromBits(b))))
			ordered(t, list(a), list(point(fromBits(b), 1)))
			ordered(t, list(a), list(point(1, fromBits(b))))
		}
	}
	r := draw.Numbers(37)
	for range 20000 {
		ordered(t, someTuple(&r, 4), someTuple(&r, 4))
	}
}

// beginsSo holds the range of a beginning against one tuple.
func beginsSo(t *testing.T, l, whole []api.Value) {
	t.Helper()
	r, e := tuple.Begin(l)
	b, f := tuple.Encode(whole)
	if e != api.OK || f != api.OK {
		t.Fatalf("Begin(%v), Encode(%v): %d, %d", l, whole, e, f)
	}
	in := bytes.Compare(r.Lo, b) <= 0 && bytes.Compare(b, r.Hi) < 0
	if want := len(whole) >= len(l) && modelCompare(whole[:len(l)], l) == 0; in != want {
		t.Fatalf("%v (%x) in the range of %v (%x to %x): %v", whole, b, l, r.Lo, r.Hi, in)
	}
}

func TestP3_8Beginnings(t *testing.T) {
	few := fewValues()
	for _, a := range few {
		beginsSo(t, nil, list(a))
		beginsSo(t, list(a), nil)
		for _, b := range few {
			beginsSo(t, list(a), list(b))
			beginsSo(t, list(a), list(a, b))
			beginsSo(t, list(a, b), list(a))
			beginsSo(t, nil, list(a, b))
			for _, c := range few {
				beginsSo(t, list(a), list(b, c))
				beginsSo(t, list(a, b), list(a, c))
				beginsSo(t, list(a, b), list(a, b, c))
				beginsSo(t, list(a, b, c), list(a, b))
			}
		}
	}
	beginsSo(t, nil, nil)
	for _, b := range otherNaNs {
		beginsSo(t, list(number(fromBits(b))), list(number(math.NaN()), none()))
		beginsSo(t, list(number(math.NaN())), list(number(fromBits(b)), text("\xff")))
	}
	r := draw.Numbers(38)
	for range 20000 {
		l := someTuple(&r, 3)
		beginsSo(t, l, append(apart(l), someTuple(&r, 2)...))
		beginsSo(t, l, someTuple(&r, 3))
	}
}

// The end of the range is no tuple's bytes, however long it is.
func TestP3_8TheEndIsNoTuple(t *testing.T) {
	r := draw.Numbers(39)
	for range 2000 {
		l, want := someTuple(&r, 4), api.ErrForm
		if len(l) > 0 && l[len(l)-1].Kind == api.TextValue {
			want = api.ErrShort // the text's end is a byte 00 of its own now
		}
		b, _ := tuple.Begin(l)
		unread(t, b.Hi, want)
	}
	full := list(repeated('a', 4094))
	b, _ := tuple.Begin(full)
	unread(t, b.Hi, api.ErrMany)
	beginsSo(t, full, full)
	beginsSo(t, full, list(repeated('a', 4093)))
	beginsSo(t, list(repeated('a', 4093)), full)
	beginsSo(t, list(repeated('a', 4093)), list(repeated('a', 4093), none()))
}
