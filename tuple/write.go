package tuple

import (
	"math/bits"

	"coppice/api"
)

// What the first byte of a value tells. That of an int is further from its border
// the more bytes it has.
const (
	firstNil   = 0x01
	firstFalse = 0x02
	firstTrue  = 0x03
	firstBelow = 0x1f // less the number of bytes: an int below 0
	firstAbove = 0x20 // and the number of bytes: an int from 0 on
	firstReal  = 0x30
	firstPoint = 0x38
	firstText  = 0x40
)

const (
	intWidth  = 8    // the most bytes of an int
	realWidth = 8    // the bytes of a real
	textEnd   = 0x00 // behind a text's last byte
	textZero  = 0xff // behind a text's own byte 00, to tell it from the end
)

// appendValue writes a valid value behind what is there.
func appendValue(b []byte, v api.Value) []byte {
	b = append(b, firstByte(v))
	switch v.Kind {
	case api.IntValue:
		// Below 0 the bits of -1 - x are those of x turned; turned again they are x.
		return appendHighFirst(b, uint64(v.Int), width(v.Int))
	case api.PointValue:
		b = appendHighFirst(b, rank(real(v.Point)), realWidth)
		v.Real = imag(v.Point)
		fallthrough
	case api.RealValue:
		return appendHighFirst(b, rank(v.Real), realWidth)
	case api.TextValue:
		return appendText(b, v.Text)
	}
	return b
}

// firstByte is the byte by which a value's kind is known.
func firstByte(v api.Value) byte {
	switch v.Kind {
	case api.BoolValue:
		if v.Bool {
			return firstTrue
		}
		return firstFalse
	case api.IntValue:
		if v.Int < 0 {
			return firstBelow - byte(width(v.Int))
		}
		return firstAbove + byte(width(v.Int))
	case api.RealValue:
		return firstReal
	case api.PointValue:
		return firstPoint
	case api.TextValue:
		return firstText
	}
	return firstNil
}

// width is the least number of bytes in which x fits; below 0 it is that of -1 - x.
func width(x int64) int {
	if x < 0 {
		x = -1 - x
	}
	return (bits.Len64(uint64(x)) + 7) / 8
}

// appendHighFirst writes the lowest n bytes of x, the highest of them first.
func appendHighFirst(b []byte, x uint64, n int) []byte {
	for i := n - 1; i >= 0; i-- {
		b = append(b, byte(x>>(8*i)))
	}
	return b
}

// appendText goes by bytes, not by runes: a text may be of any bytes.
func appendText(b []byte, s string) []byte {
	for i := range len(s) {
		b = append(b, s[i])
		if s[i] == textEnd {
			b = append(b, textZero)
		}
	}
	return append(b, textEnd)
}
