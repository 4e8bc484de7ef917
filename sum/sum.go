// Package sum is layer 1: see shared/doc/01-sum.md.
package sum

// Of is the sum of bytes.
func Of(b []byte) uint32 { return More(0, b) }

// More is the sum of bytes of which the first ones have the sum s, and these stand behind them.
func More(s uint32, b []byte) uint32 { return ^goOn(^s, b) }

// Join is the sum of bytes whose first part has the sum a, and whose second part, of n bytes, the sum b.
func Join(a, b uint32, n int) uint32 { return overZeros(a, n) ^ b }

// Zeros is the sum of n bytes 0.
func Zeros(n int) uint32 { return ^overZeros(^uint32(0), n) }

// goOn goes on from a number over bytes. Four steps turn bits only because of
// the lowest four, all others just move down: so half a byte is done at once.
func goOn(s uint32, b []byte) uint32 {
	half := [16]uint32{
		0x00000000, 0x105EC76F, 0x20BD8EDE, 0x30E349B1,
		0x417B1DBC, 0x5125DAD3, 0x61C69362, 0x7198540D,
		0x82F63B78, 0x92A8FC17, 0xA24BB5A6, 0xB21572C9,
		0xC38D26C4, 0xD3D3E1AB, 0xE330A81A, 0xF36E6F75,
	}
	for _, x := range b {
		s ^= uint32(x)
		s = s>>4 ^ half[s&15]
		s = s>>4 ^ half[s&15]
	}
	return s
}
