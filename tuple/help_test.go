package tuple_test

import (
	"bytes"
	"encoding/binary"
	"encoding/hex"
	"math"
	"math/big"
	"strings"
	"testing"

	"coppice/api"
	"coppice/draw"
	"coppice/tuple"
)

// The calls have just these types.
var (
	_ func(api.Value) bool                     = tuple.Valid
	_ func(api.Value) api.Value                = tuple.Same
	_ func(a, b []api.Value) int               = tuple.Compare
	_ func([]api.Value) ([]byte, api.Errno)    = tuple.Encode
	_ func([]byte) ([]api.Value, api.Errno)    = tuple.Decode
	_ func([]api.Value) (api.Range, api.Errno) = tuple.Begin
)

// theNaN has the bits that the chapter names; others of all signs, quiet and not.
const theNaN = 0x7ff8000000000001

var otherNaNs = []uint64{
	0x7ff0000000000001, 0x7ff4000000000000, 0x7ff7ffffffffffff, 0x7ff8000000000000, 0x7ff8000000000002, 0x7fffffffffffffff,
	0xfff0000000000001, 0xfff4000000000000, 0xfff8000000000000, 0xfff8000000000001, 0xfff8000000000123, 0xffffffffffffffff,
}

var minus = math.Copysign(0, -1)

func none() api.Value                 { return api.Value{} }
func yes(b bool) api.Value            { return api.Value{Kind: api.BoolValue, Bool: b} }
func whole(x int64) api.Value         { return api.Value{Kind: api.IntValue, Int: x} }
func number(x float64) api.Value      { return api.Value{Kind: api.RealValue, Real: x} }
func point(re, im float64) api.Value  { return api.Value{Kind: api.PointValue, Point: complex(re, im)} }
func text(s string) api.Value         { return api.Value{Kind: api.TextValue, Text: s} }
func list(v ...api.Value) []api.Value { return v }

func fromBits(b uint64) float64 { return math.Float64frombits(b) }

// risingReals are reals in their order, no two the same.
func risingReals() []float64 {
	return []float64{
		math.Inf(-1), -math.MaxFloat64, -1e100, -2, math.Nextafter(-1, -2), -1, math.Nextafter(-1, 0), -0.5,
		fromBits(0x8010000000000000), fromBits(0x800fffffffffffff), -math.SmallestNonzeroFloat64,
		minus, 0,
		math.SmallestNonzeroFloat64, fromBits(0x000fffffffffffff), fromBits(0x0010000000000000),
		0.5, math.Nextafter(1, 0), 1, math.Nextafter(1, 2), 2, 1e100, math.MaxFloat64, math.Inf(1), math.NaN(),
	}
}

// risingInts are the ints at each border of their widths, and beside it.
func risingInts() []int64 {
	down, up := []int64{}, []int64{0, 1, 2}
	for n := 1; n < 8; n++ {
		edge := int64(1) << (8 * n) // the first that does not fit n bytes
		up = append(up, edge/2-1, edge/2, edge-2, edge-1, edge, edge+1)
	}
	up = append(up, math.MaxInt64/2, math.MaxInt64-1, math.MaxInt64)
	for i := len(up) - 1; i >= 0; i-- {
		down = append(down, -1-up[i])
	}
	return append(down, up...)
}

// risingTexts are texts in their order, each once.
func risingTexts() []string {
	return []string{
		"", "\x00", "\x00\x00", "\x00\x00\xff", "\x00\x01", "\x00a", "\x00\xff", "\x00\xff\x00", "\x01", "\x01\x00", "@", "A",
		"a", "a\x00", "a\x00\x00", "a\x00b", "a\x00\xff", "a\x01", "a\x01\x00", "a ", "ab", "a\xff", "b", "é", "日", "\xfe\xff", "\xff", "\xff\x00", "\xff\x00\xff", "\xff\xff",
	}
}

// risingValues are valid values of all kinds in their order, no two the same.
func risingValues() []api.Value {
	l := list(none(), yes(false), yes(true))
	for _, x := range risingInts() {
		l = append(l, whole(x))
	}
	for _, x := range risingReals() {
		l = append(l, number(x))
	}
	for _, x := range risingReals() {
		for _, y := range risingReals() {
			l = append(l, point(x, y))
		}
	}
	for _, s := range risingTexts() {
		l = append(l, text(s))
	}
	return l
}

// fewValues is at least one value of each kind and place, in their order.
func fewValues() []api.Value {
	return list(none(), yes(false), yes(true), whole(math.MinInt64), whole(-257), whole(-256), whole(-1), whole(0), whole(1), whole(255), whole(256), whole(math.MaxInt64),
		number(math.Inf(-1)), number(minus), number(0), number(1), number(math.NaN()), point(minus, 1), point(0, math.NaN()), point(math.NaN(), math.Inf(-1)),
		text(""), text("\x00"), text("\x00\xff"), text("a"), text("a\x00"), text("\xff"))
}

// equal holds two values against each other bit by bit.
func equal(a, b api.Value) bool {
	same := func(x, y float64) bool { return math.Float64bits(x) == math.Float64bits(y) }
	return a.Kind == b.Kind && a.Bool == b.Bool && a.Int == b.Int && same(a.Real, b.Real) &&
		same(real(a.Point), real(b.Point)) && same(imag(a.Point), imag(b.Point)) && a.Text == b.Text
}

func equalLists(a, b []api.Value) bool {
	if len(a) != len(b) {
		return false
	}
	for i := range a {
		if !equal(a[i], b[i]) {
			return false
		}
	}
	return true
}

// modelSame is what the chapter says of a valid value.
func modelSame(v api.Value) api.Value {
	one := func(x float64) float64 {
		if x != x {
			return fromBits(theNaN)
		}
		return x
	}
	switch v.Kind {
	case api.RealValue:
		return number(one(v.Real))
	case api.PointValue:
		return point(one(real(v.Point)), one(imag(v.Point)))
	}
	return v
}

func modelSames(l []api.Value) []api.Value {
	var m []api.Value
	for _, v := range l {
		m = append(m, modelSame(v))
	}
	return m
}

// group is the place of a real among the seven that the order names.
func group(x float64) int {
	switch {
	case x != x:
		return 6
	case math.IsInf(x, -1):
		return 0
	case x < 0:
		return 1
	case x == 0 && math.Signbit(x):
		return 2
	case x == 0:
		return 3
	case math.IsInf(x, 1):
		return 5
	}
	return 4
}

func modelReals(a, b float64) int {
	switch {
	case group(a) < group(b):
		return -1
	case group(a) > group(b):
		return 1
	case a < b:
		return -1
	case a > b:
		return 1
	}
	return 0
}

func modelValues(a, b api.Value) int {
	if a.Kind < b.Kind {
		return -1
	}
	if a.Kind > b.Kind {
		return 1
	}
	switch a.Kind {
	case api.BoolValue:
		if a.Bool == b.Bool {
			return 0
		}
		if b.Bool {
			return -1
		}
		return 1
	case api.IntValue:
		return big.NewInt(a.Int).Cmp(big.NewInt(b.Int))
	case api.RealValue:
		return modelReals(a.Real, b.Real)
	case api.PointValue:
		if c := modelReals(real(a.Point), real(b.Point)); c != 0 {
			return c
		}
		return modelReals(imag(a.Point), imag(b.Point))
	case api.TextValue:
		return bytes.Compare([]byte(a.Text), []byte(b.Text))
	}
	return 0
}

func modelCompare(a, b []api.Value) int {
	for i := 0; i < len(a) && i < len(b); i++ {
		if c := modelValues(a[i], b[i]); c != 0 {
			return c
		}
	}
	switch {
	case len(a) < len(b):
		return -1
	case len(a) > len(b):
		return 1
	}
	return 0
}

// turned is the bytes with all their bits turned.
func turned(b []byte) []byte {
	c := make([]byte, len(b))
	for i, x := range b {
		c[i] = 255 - x
	}
	return c
}

// modelReal is the eight bytes of a real.
func modelReal(x float64) []byte {
	if x != x {
		x = fromBits(theNaN)
	}
	b := binary.BigEndian.AppendUint64(nil, math.Float64bits(x))
	if b[0] >= 0x80 {
		return turned(b)
	}
	b[0] += 0x80
	return b
}

// modelBytes is a valid value's row of the chapter's table.
func modelBytes(v api.Value) []byte {
	switch v.Kind {
	case api.BoolValue:
		if v.Bool {
			return []byte{3}
		}
		return []byte{2}
	case api.IntValue:
		x := big.NewInt(v.Int)
		if x.Sign() >= 0 {
			return append([]byte{0x20 + byte(len(x.Bytes()))}, x.Bytes()...)
		}
		y := new(big.Int).Sub(big.NewInt(-1), x)
		return append([]byte{0x1f - byte(len(y.Bytes()))}, turned(y.Bytes())...)
	case api.RealValue:
		return append([]byte{0x30}, modelReal(v.Real)...)
	case api.PointValue:
		return append(append([]byte{0x38}, modelReal(real(v.Point))...), modelReal(imag(v.Point))...)
	case api.TextValue:
		return []byte("\x40" + strings.ReplaceAll(v.Text, "\x00", "\x00\xff") + "\x00")
	}
	return []byte{1}
}

func modelAll(l []api.Value) []byte {
	var b []byte
	for _, v := range l {
		b = append(b, modelBytes(v)...)
	}
	return b
}

// modelDecode goes through the bytes as P3.4 says it, with each fault asked for
// by itself.
func modelDecode(b []byte) ([]api.Value, api.Errno) {
	if len(b) > 4096 {
		return nil, api.ErrMany
	}
	var l []api.Value
	for len(b) > 0 {
		v, n, e := modelFirst(b)
		if e != api.OK {
			return nil, e
		}
		l, b = append(l, v), b[n:]
	}
	return l, api.OK
}

func modelFirst(b []byte) (api.Value, int, api.Errno) {
	switch f := int(b[0]); {
	case f == 1:
		return none(), 1, api.OK
	case f == 2 || f == 3:
		return yes(f == 3), 1, api.OK
	case f >= 0x17 && f <= 0x28:
		return modelInt(b)
	case f == 0x30:
		if len(b) < 9 {
			return none(), 0, api.ErrShort
		}
		x, e := modelUnreal(b[1:9])
		return number(x), 9, e
	case f == 0x38:
		if len(b) < 17 {
			return none(), 0, api.ErrShort
		}
		x, e := modelUnreal(b[1:9])
		y, g := modelUnreal(b[9:17])
		return point(x, y), 17, max(e, g)
	case f == 0x40:
		return modelText(b)
	}
	return none(), 0, api.ErrForm
}

func modelInt(b []byte) (api.Value, int, api.Errno) {
	n := int(b[0]) - 0x20
	if n < 0 {
		n = 0x1f - int(b[0])
	}
	if len(b) < 1+n {
		return none(), 0, api.ErrShort
	}
	rest := b[1 : 1+n]
	if b[0] < 0x20 {
		rest = turned(rest)
	}
	x := new(big.Int).SetBytes(rest)
	if len(x.Bytes()) < n || !x.IsInt64() {
		return none(), 0, api.ErrForm
	}
	if b[0] < 0x20 {
		return whole(-1 - x.Int64()), 1 + n, api.OK
	}
	return whole(x.Int64()), 1 + n, api.OK
}

func modelUnreal(b []byte) (float64, api.Errno) {
	c := bytes.Clone(b)
	if c[0] >= 0x80 {
		c[0] -= 0x80
	} else {
		c = turned(c)
	}
	x := fromBits(binary.BigEndian.Uint64(c))
	if x != x && math.Float64bits(x) != theNaN {
		return 0, api.ErrForm
	}
	return x, api.OK
}

func modelText(b []byte) (api.Value, int, api.Errno) {
	s := ""
	for i := 1; i < len(b); i++ {
		if b[i] != 0 {
			s += string(b[i : i+1])
			continue
		}
		if i+1 == len(b) || b[i+1] != 0xff {
			return text(s), i + 1, api.OK
		}
		s += "\x00"
		i++
	}
	return none(), 0, api.ErrShort
}

// encoded is what a tuple must be written as.
func encoded(t *testing.T, l []api.Value, want []byte) {
	t.Helper()
	if b, e := tuple.Encode(l); e != api.OK || !bytes.Equal(b, want) {
		t.Errorf("Encode(%v) = %.60x, %d; want %.60x", l, b, e, want)
	}
}

// refused is a list that must not be written.
func refused(t *testing.T, l []api.Value, want api.Errno) {
	t.Helper()
	if b, e := tuple.Encode(l); e != want || len(b) != 0 {
		t.Errorf("Encode of %d values, the last %+v, = %d bytes, %d; want error %d", len(l), l[len(l)-1], len(b), e, want)
	}
}

// decoded is what bytes must be read as.
func decoded(t *testing.T, b []byte, want []api.Value) {
	t.Helper()
	if l, e := tuple.Decode(b); e != api.OK || !equalLists(l, want) {
		t.Errorf("Decode(%.60x) = %v, %d; want %v", b, l, e, want)
	}
}

// unread is bytes that must not be read.
func unread(t *testing.T, b []byte, want api.Errno) {
	t.Helper()
	if l, e := tuple.Decode(b); e != want || len(l) != 0 {
		t.Errorf("Decode(%.60x) (%d bytes) = %v, %d; want error %d", b, len(b), l, e, want)
	}
}

// compared holds two lists against each other both ways.
func compared(t *testing.T, a, b []api.Value, want int) {
	t.Helper()
	if c := tuple.Compare(a, b); c != want {
		t.Errorf("Compare(%+v, %+v) = %d, want %d", a, b, c, want)
	}
	if c := tuple.Compare(b, a); c != -want {
		t.Errorf("Compare(%+v, %+v) = %d, want %d", b, a, c, -want)
	}
}

// row is bytes as the chapter writes them.
func row(s string) []byte {
	b, err := hex.DecodeString(strings.ReplaceAll(s, " ", ""))
	if err != nil {
		panic(err)
	}
	return b
}

func someReal(r *draw.Numbers) float64 {
	switch r.Below(4) {
	case 0:
		all := risingReals()
		return all[r.Below(len(all))]
	case 1:
		return fromBits(otherNaNs[r.Below(len(otherNaNs))])
	case 2:
		return float64(r.Below(5) - 2)
	}
	return fromBits(r.Next())
}

// someValue is a valid value; few texts and ints come often, so that rows begin alike.
func someValue(r *draw.Numbers) api.Value {
	switch r.Below(7) {
	case 0:
		return none()
	case 1:
		return yes(r.Below(2) == 1)
	case 2:
		return whole(int64(r.Next()) >> r.Below(64))
	case 3:
		return number(someReal(r))
	case 4:
		return point(someReal(r), someReal(r))
	case 5:
		b := make([]byte, r.Below(4))
		for i := range b {
			b[i] = []byte{0, 0xff, 'a', 1}[r.Below(4)]
		}
		return text(string(b))
	}
	return whole(int64(r.Below(4) - 2))
}

func someTuple(r *draw.Numbers, most int) []api.Value {
	var l []api.Value
	for range r.Below(most + 1) {
		l = append(l, someValue(r))
	}
	return l
}
