package tuple_test

import (
	"bytes"
	"math"
	"testing"
	"unsafe"

	"coppice/api"
	"coppice/draw"
	"coppice/tuple"
)

func TestExamplesOfEncode(t *testing.T) {
	for _, c := range []struct {
		l []api.Value
		b string
	}{
		{list(none(), yes(false), yes(true)), "01 02 03"},
		{list(whole(0)), "20"},
		{list(whole(1)), "21 01"},
		{list(whole(255)), "21 ff"},
		{list(whole(256)), "22 01 00"},
		{list(whole(-1)), "1f"},
		{list(whole(-2)), "1e fe"},
		{list(whole(-256)), "1e 00"},
		{list(whole(-257)), "1d fe ff"},
		{list(whole(math.MaxInt64)), "28 7f ff ff ff ff ff ff ff"},
		{list(whole(math.MinInt64)), "17 80 00 00 00 00 00 00 00"},
		{list(number(0)), "30 80 00 00 00 00 00 00 00"},
		{list(number(1)), "30 bf f0 00 00 00 00 00 00"},
		{list(number(minus)), "30 7f ff ff ff ff ff ff ff"},
		{list(number(-1)), "30 40 0f ff ff ff ff ff ff"},
		{list(number(fromBits(otherNaNs[3]))), "30 ff f8 00 00 00 00 00 01"},
		{list(number(math.Inf(1))), "30 ff f0 00 00 00 00 00 00"},
		{list(text("a"), text(""), text("a\x00b")), "40 61 00 40 00 40 61 00 ff 62 00"},
	} {
		encoded(t, c.l, row(c.b))
	}
	refused(t, list(api.Value{Kind: 1, Int: 5}), api.ErrKind)
	refused(t, list(api.Value{Kind: 6}), api.ErrKind)
}

func TestExamplesOfCompare(t *testing.T) {
	compared(t, list(text("a")), list(text("a\x00")), -1)
	compared(t, list(whole(1)), list(whole(1), none()), -1)
	compared(t, list(whole(5)), list(number(4)), -1)
	compared(t, list(number(minus)), list(number(0)), -1)
	compared(t, list(number(math.NaN())), list(number(fromBits(otherNaNs[0]))), 0)
	compared(t, list(point(2, 1)), list(point(2, -1)), 1)
}

func TestExamplesOfDecode(t *testing.T) {
	unread(t, row("21 00"), api.ErrForm)
	unread(t, row("22 01"), api.ErrShort)
	unread(t, row("04"), api.ErrForm)
	unread(t, row("40 61"), api.ErrShort)
	unread(t, row("28 80 00 00 00 00 00 00 00"), api.ErrForm)
	unread(t, row("1e ff"), api.ErrForm)
	unread(t, row("30 ff f8 00 00 00 00 00 00"), api.ErrForm)
	decoded(t, nil, nil)
	decoded(t, row("40 61 00 02"), list(text("a"), yes(false)))
}

func TestExamplesOfBeginAndValid(t *testing.T) {
	begun(t, list(whole(1)), row("21 01"), row("21 01 ff"))
	begun(t, nil, nil, row("ff"))
	if tuple.Valid(api.Value{Kind: 0, Real: minus}) {
		t.Error("a nil with the nought of the sign minus is valid")
	}
}

// begun is what Begin must answer of a tuple.
func begun(t *testing.T, l []api.Value, lo, hi []byte) {
	t.Helper()
	r, e := tuple.Begin(l)
	if e != api.OK || r.Open || !bytes.Equal(r.Lo, lo) || !bytes.Equal(r.Hi, hi) {
		t.Errorf("Begin(%v) = {%.60x, %.60x, %v}, %d; want {%.60x, %.60x, false}", l, r.Lo, r.Hi, r.Open, e, lo, hi)
	}
}

// fields sets one field each to what is not zero, and is the kind that names it.
var fields = []struct {
	kind int
	set  func(*api.Value)
}{
	{api.BoolValue, func(v *api.Value) { v.Bool = true }},
	{api.IntValue, func(v *api.Value) { v.Int = 1 }},
	{api.IntValue, func(v *api.Value) { v.Int = math.MinInt64 }},
	{api.RealValue, func(v *api.Value) { v.Real = math.SmallestNonzeroFloat64 }},
	{api.RealValue, func(v *api.Value) { v.Real = minus }},
	{api.RealValue, func(v *api.Value) { v.Real = math.NaN() }},
	{api.RealValue, func(v *api.Value) { v.Real = math.Inf(-1) }},
	{api.PointValue, func(v *api.Value) { v.Point = complex(1, 0) }},
	{api.PointValue, func(v *api.Value) { v.Point = complex(0, 1) }},
	{api.PointValue, func(v *api.Value) { v.Point = complex(minus, 0) }},
	{api.PointValue, func(v *api.Value) { v.Point = complex(0, minus) }},
	{api.PointValue, func(v *api.Value) { v.Point = complex(math.NaN(), 0) }},
	{api.PointValue, func(v *api.Value) { v.Point = complex(0, math.NaN()) }},
	{api.TextValue, func(v *api.Value) { v.Text = "a" }},
	{api.TextValue, func(v *api.Value) { v.Text = "\x00" }},
}

// strange are kinds that there are not.
var strange = []int{math.MinInt, -6, -1, 6, 7, 256, 1 << 32, math.MaxInt}

// isValid holds Valid, Same and Encode of one struct against what it is.
func isValid(t *testing.T, v api.Value, want bool) {
	t.Helper()
	if tuple.Valid(v) != want {
		t.Errorf("Valid(%+v) = %v", v, !want)
	}
	same := api.Value{}
	if want {
		same = modelSame(v)
	}
	if s := tuple.Same(v); !equal(s, same) {
		t.Errorf("Same(%+v) = %+v, want %+v", v, s, same)
	}
	b, e := tuple.Encode(list(v))
	if want && e != api.OK || !want && (e != api.ErrKind || len(b) != 0) {
		t.Errorf("Encode(%+v) = %x, %d", v, b, e)
	}
}

func TestP3_1EachKindAndField(t *testing.T) {
	for kind := api.NilValue; kind <= api.TextValue; kind++ {
		isValid(t, api.Value{Kind: kind}, true)
		for _, f := range fields {
			v := api.Value{Kind: kind}
			f.set(&v)
			isValid(t, v, f.kind == kind)
			for _, g := range fields {
				w := v
				g.set(&w)
				isValid(t, w, f.kind == kind && g.kind == kind)
			}
		}
	}
}

func TestP3_1StrangeKinds(t *testing.T) {
	for _, kind := range strange {
		isValid(t, api.Value{Kind: kind}, false)
		for _, f := range fields {
			v := api.Value{Kind: kind}
			f.set(&v)
			isValid(t, v, false)
		}
	}
}

func TestP3_1WhatAKindNamesMayBeAnything(t *testing.T) {
	for _, v := range risingValues() {
		isValid(t, v, true)
	}
	r := draw.Numbers(31)
	for range 2000 {
		isValid(t, someValue(&r), true)
	}
}

func TestP3_1NaNs(t *testing.T) {
	for _, b := range append(otherNaNs, theNaN) {
		x := fromBits(b)
		isValid(t, number(x), true)
		for _, y := range risingReals() {
			isValid(t, point(x, y), true)
			isValid(t, point(y, x), true)
		}
		if s := tuple.Same(number(x)); math.Float64bits(s.Real) != theNaN {
			t.Errorf("Same of the NaN %x: %x", b, math.Float64bits(s.Real))
		}
		s := tuple.Same(point(x, x)).Point
		if math.Float64bits(real(s)) != theNaN || math.Float64bits(imag(s)) != theNaN {
			t.Errorf("Same of the point of NaNs %x: %x, %x", b, math.Float64bits(real(s)), math.Float64bits(imag(s)))
		}
	}
}

func TestP3_3Rows(t *testing.T) {
	for _, v := range risingValues() {
		encoded(t, list(v), modelBytes(v))
		encoded(t, list(text("a"), v, none()), append(append(modelBytes(text("a")), modelBytes(v)...), 1))
	}
	for _, b := range otherNaNs {
		x := fromBits(b)
		encoded(t, list(number(x)), row("30 ff f8 00 00 00 00 00 01"))
		encoded(t, list(point(x, 1)), row("38 ff f8 00 00 00 00 00 01 bf f0 00 00 00 00 00 00"))
		encoded(t, list(point(1, x)), row("38 bf f0 00 00 00 00 00 00 ff f8 00 00 00 00 00 01"))
	}
	encoded(t, nil, nil)
	encoded(t, list(), nil)
	r := draw.Numbers(33)
	for range 3000 {
		l := someTuple(&r, 8)
		encoded(t, l, modelAll(l))
	}
}

// repeated is a text of n bytes alike.
func repeated(x byte, n int) api.Value { return text(string(bytes.Repeat([]byte{x}, n))) }

func TestP3_3Limit(t *testing.T) {
	full := [][]api.Value{
		list(repeated('a', 4094)),
		list(repeated(0, 2047)),
		list(none(), repeated(0, 2045), whole(0), yes(true), none()),
		make([]api.Value, 4096),
		append(make([]api.Value, 4087), whole(math.MinInt64)),
		append(make([]api.Value, 4087), number(1)),
		append(make([]api.Value, 4079), point(1, 1)),
	}
	for _, l := range full {
		want := modelAll(l)
		if len(want) != 4096 {
			t.Fatalf("%d bytes", len(want))
		}
		encoded(t, l, want)
		decoded(t, want, l)
		begun(t, l, want, append(bytes.Clone(want), 0xff))
		for _, v := range fewValues() {
			refused(t, append(apart(l), v), api.ErrMany)
			refused(t, append(list(v), l...), api.ErrMany)
		}
	}
	refused(t, list(repeated('a', 4095)), api.ErrMany)
	refused(t, list(repeated(0, 2048)), api.ErrMany)
	refused(t, list(repeated('a', 4096)), api.ErrMany)
	refused(t, list(repeated('a', 4097)), api.ErrMany)
	refused(t, list(none(), repeated('a', 4097)), api.ErrMany)
	refused(t, list(repeated(0, 1<<22)), api.ErrMany)
	refused(t, make([]api.Value, 4097), api.ErrMany)
	refused(t, make([]api.Value, 1<<18), api.ErrMany)
}

// apart is the list in memory of its own, without spare room.
func apart(l []api.Value) []api.Value {
	m := make([]api.Value, len(l))
	copy(m, l)
	return m
}

func TestP3_3KindStandsAheadOfMany(t *testing.T) {
	bad, long := api.Value{Kind: 6}, repeated('a', 5000)
	refused(t, list(bad, long), api.ErrKind)
	refused(t, list(long, bad), api.ErrKind)
	refused(t, list(long, long, api.Value{Kind: api.IntValue, Text: "x"}), api.ErrKind)
	refused(t, list(api.Value{Kind: api.IntValue, Text: long.Text}), api.ErrKind)
	refused(t, append(make([]api.Value, 5000), bad), api.ErrKind)
	refused(t, list(long, none()), api.ErrMany)
}

func TestP3_5Begin(t *testing.T) {
	for _, v := range fewValues() {
		b := modelBytes(v)
		begun(t, list(v), b, append(bytes.Clone(b), 0xff))
		for _, w := range fewValues() {
			b := modelAll(list(v, w))
			begun(t, list(v, w), b, append(bytes.Clone(b), 0xff))
		}
	}
	begun(t, list(), nil, []byte{0xff})
	for _, c := range []struct {
		l []api.Value
		e api.Errno
	}{
		{list(api.Value{Kind: 6}), api.ErrKind},
		{list(none(), api.Value{Kind: -1}), api.ErrKind},
		{list(api.Value{Kind: 1, Int: 5}), api.ErrKind},
		{list(repeated('a', 4095)), api.ErrMany},
		{make([]api.Value, 4097), api.ErrMany},
		{append(make([]api.Value, 4097), api.Value{Kind: 9}), api.ErrKind},
	} {
		r, e := tuple.Begin(c.l)
		if e != c.e || len(r.Lo) != 0 || len(r.Hi) != 0 || r.Open {
			t.Errorf("Begin of %d values = %v, %d; want error %d", len(c.l), r, e, c.e)
		}
	}
}

func TestP3_6WhatIsEncodedIsDecoded(t *testing.T) {
	try := func(l []api.Value) {
		b, e := tuple.Encode(l)
		if e != api.OK {
			t.Fatalf("Encode(%v): %d", l, e)
		}
		m, e := tuple.Decode(b)
		if e != api.OK || !equalLists(m, modelSames(l)) {
			t.Errorf("Decode(Encode(%v)) = %v, %d", l, m, e)
		}
		for i, v := range m {
			if !equal(v, tuple.Same(l[i])) {
				t.Errorf("value %d of Decode(Encode(%v)) is %v, and not Same of it", i, l, v)
			}
		}
	}
	try(nil)
	for _, v := range risingValues() {
		try(list(v))
		try(list(v, v))
	}
	for _, b := range otherNaNs {
		try(list(number(fromBits(b)), point(fromBits(b), 1), point(1, fromBits(b))))
	}
	r := draw.Numbers(36)
	for range 5000 {
		try(someTuple(&r, 12))
	}
}

func TestR4EncodeAndBegin(t *testing.T) {
	room := make([]api.Value, 8)
	for i := range room {
		room[i] = text("spare")
	}
	l := append(room[:0], whole(1), text("a\x00"), point(1, fromBits(otherNaNs[4])))
	before := apart(room)
	one, _ := tuple.Encode(l)
	two, _ := tuple.Encode(l)
	r, _ := tuple.Begin(l)
	tuple.Compare(l, l[:1])
	if !equalLists(room, before) {
		t.Fatalf("what was handed in is changed: %v", room)
	}
	want := modelAll(l)
	all := [][]byte{one, two, r.Lo, r.Hi}
	for i, b := range all {
		spoil(b)
		for _, c := range all[i+1:] {
			if !bytes.Equal(c[:len(want)], want) {
				t.Fatalf("answer %d shares memory with another one", i)
			}
		}
	}
}

// spoil writes over bytes and over their spare room.
func spoil(b []byte) {
	for i := range b[:cap(b)] {
		b[:cap(b)][i] ^= 0x55
	}
}

func TestR4Decode(t *testing.T) {
	want := list(text("abc"), none(), text("a\x00b"), whole(7))
	all := modelAll(want)
	room := append(bytes.Clone(all), "spare room"...)
	before := bytes.Clone(room)
	one, _ := tuple.Decode(room[:len(all)])
	two, _ := tuple.Decode(room[:len(all)])
	if !bytes.Equal(room, before) {
		t.Fatalf("what was handed in is changed: %x", room)
	}
	spoil(room)
	if !equalLists(one, want) || !equalLists(two, want) {
		t.Fatalf("what was handed in is kept: %v, %v", one, two)
	}
	one = one[:cap(one)]
	for i := range one {
		one[i] = text("spoilt")
	}
	if !equalLists(two, want) {
		t.Fatalf("two answers share memory: %v", two)
	}
}

func TestR4Same(t *testing.T) {
	v := text("some text")
	if s := tuple.Same(v); unsafe.StringData(s.Text) == unsafe.StringData(v.Text) {
		t.Error("the text of the answer is that of the argument")
	}
}

func TestR5TheSameEachTime(t *testing.T) {
	r := draw.Numbers(35)
	for range 300 {
		l := someTuple(&r, 10)
		b, _ := tuple.Encode(l)
		tuple.Decode([]byte{0x40, 'a'})
		tuple.Encode(list(api.Value{Kind: 6}))
		encoded(t, append(make([]api.Value, 0, 100), l...), b)
		decoded(t, append(make([]byte, 0, 100), b...), modelSames(l))
	}
}
