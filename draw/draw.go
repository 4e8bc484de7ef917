// Package draw gives the tests of all layers rows of numbers that look like no
// rule, and are the same each time.
package draw

// Numbers is such a row; where it begins tells one from another.
type Numbers uint64

// Next is the row's next number.
func (r *Numbers) Next() uint64 {
	*r += 0x9E3779B97F4A7C15
	z := uint64(*r)
	z = (z ^ z>>30) * 0xBF58476D1CE4E5B9
	z = (z ^ z>>27) * 0x94D049BB133111EB
	return z ^ z>>31
}

// Below is a number from 0 to n - 1; n is above 0.
func (r *Numbers) Below(n int) int { return int(r.Next() % uint64(n)) }

// Bytes is n bytes.
func (r *Numbers) Bytes(n int) []byte {
	b := make([]byte, n)
	for i := range b {
		b[i] = byte(r.Next())
	}
	return b
}
