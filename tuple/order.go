package tuple

import (
	"cmp"
	"math"

	"coppice/api"
)

// sign is the highest bit of a real.
const sign = 1 << 63

// compareValues is the order of two structs, of which only the fields count that
// their kinds name.
func compareValues(a, b api.Value) int {
	if c := cmp.Compare(a.Kind, b.Kind); c != 0 {
		return c
	}
	switch a.Kind {
	case api.BoolValue:
		return compareBools(a.Bool, b.Bool)
	case api.IntValue:
		return cmp.Compare(a.Int, b.Int)
	case api.PointValue:
		if c := cmp.Compare(rank(real(a.Point)), rank(real(b.Point))); c != 0 {
			return c
		}
		a.Real, b.Real = imag(a.Point), imag(b.Point)
		fallthrough
	case api.RealValue:
		return cmp.Compare(rank(a.Real), rank(b.Real))
	case api.TextValue:
		return cmp.Compare(a.Text, b.Text)
	}
	return 0
}

func compareBools(a, b bool) int {
	switch {
	case a == b:
		return 0
	case a:
		return 1
	}
	return -1
}

// rank is a number's place in the order of reals. Bits with the sign fall where
// the number rises, so they are turned; the others come behind them.
func rank(x float64) uint64 {
	b := math.Float64bits(oneNaN(x))
	if b&sign != 0 {
		return ^b
	}
	return b | sign
}

// ranked is the number whose rank this is.
func ranked(r uint64) float64 {
	if r&sign != 0 {
		return math.Float64frombits(r &^ sign)
	}
	return math.Float64frombits(^r)
}
