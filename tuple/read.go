package tuple

import (
	"bytes"

	"coppice/api"
)

// readValue is the first value of what is left, and how many bytes it has.
func readValue(left []byte) (api.Value, int, api.Errno) {
	kind, ok := kindOf(left[0])
	if !ok {
		return api.Value{}, 0, api.ErrForm
	}
	n := size(kind, left)
	if n > len(left) {
		return api.Value{}, 0, api.ErrShort
	}
	v := parse(kind, left[:n])
	// A value has one form: what would be written otherwise is no value's bytes.
	if !bytes.Equal(appendValue(nil, v), left[:n]) {
		return api.Value{}, 0, api.ErrForm
	}
	return v, n, api.OK
}

// kindOf is the kind of values that begin with this byte, if there is one.
func kindOf(first byte) (int, bool) {
	switch {
	case first == firstNil:
		return api.NilValue, true
	case first == firstFalse, first == firstTrue:
		return api.BoolValue, true
	case first >= firstBelow-intWidth && first <= firstAbove+intWidth:
		return api.IntValue, true
	case first == firstReal:
		return api.RealValue, true
	case first == firstPoint:
		return api.PointValue, true
	case first == firstText:
		return api.TextValue, true
	}
	return 0, false
}

// size is how many bytes the first value of what is left has; some may be lacking.
func size(kind int, left []byte) int {
	n := 1
	switch kind {
	case api.IntValue:
		n += intBytes(left[0])
	case api.PointValue:
		n += realWidth
		fallthrough
	case api.RealValue:
		n += realWidth
	case api.TextValue:
		n += textBytes(left[1:])
	}
	return n
}

// intBytes is how many bytes an int has behind its first one.
func intBytes(first byte) int {
	if first < firstAbove {
		return int(firstBelow - first)
	}
	return int(first - firstAbove)
}

// textBytes is how many bytes a text has with its end; without an end it is one
// more than there are.
func textBytes(b []byte) int {
	for i, x := range b {
		last := i+1 == len(b)
		if x == textEnd && (last || b[i+1] != textZero) {
			return i + 1
		}
	}
	return len(b) + 1
}

// parse is the value of that kind whose bytes these are, all of them; whether it
// is written in just these is not looked at.
func parse(kind int, b []byte) api.Value {
	v := api.Value{Kind: kind}
	switch rest := b[1:]; kind {
	case api.BoolValue:
		v.Bool = b[0] == firstTrue
	case api.IntValue:
		v.Int = parseInt(rest, b[0] < firstAbove)
	case api.RealValue:
		v.Real = ranked(highFirst(rest))
	case api.PointValue:
		v.Point = complex(ranked(highFirst(rest[:realWidth])), ranked(highFirst(rest[realWidth:])))
	case api.TextValue:
		v.Text = parseText(rest[:len(rest)-1])
	}
	return v
}

// parseInt is the int with these lowest bytes; the bytes above them are as its
// sign has them.
func parseInt(b []byte, below bool) int64 {
	x := highFirst(b)
	if below {
		x |= ^uint64(0) << (8 * len(b))
	}
	return int64(x)
}

// highFirst is the number with these bytes.
func highFirst(b []byte) uint64 {
	var x uint64
	for _, y := range b {
		x = x<<8 | uint64(y)
	}
	return x
}

// parseText passes over the byte that stands behind each byte 00.
func parseText(b []byte) string {
	var s []byte
	for i := 0; i < len(b); i++ {
		s = append(s, b[i])
		if b[i] == textEnd {
			i++
		}
	}
	return string(s)
}
