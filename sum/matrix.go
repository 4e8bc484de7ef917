package sum

// polynomial is Castagnoli's, its lowest power in the highest bit.
const polynomial = 0x82F63B78

// matrix is a row of steps as one act: its number i is what becomes of bit i.
// That is enough, for what becomes of a number is the exclusive-or of what
// becomes of its bits.
type matrix [32]uint32

// overZeros is what s becomes by 8 times n steps. Each bit of n needs one
// square, so the greatest n takes no more than 63 of them.
func overZeros(s uint32, n int) uint32 {
	m := eightSteps()
	for ; n > 0; n >>= 1 {
		if n&1 == 1 {
			s = m.times(s)
		}
		m = m.square()
	}
	return s
}

// eightSteps is what one byte 0 does.
func eightSteps() matrix {
	m := oneStep()
	for range 3 {
		m = m.square()
	}
	return m
}

func oneStep() matrix {
	m := matrix{polynomial}
	for i := 1; i < len(m); i++ {
		m[i] = 1 << (i - 1)
	}
	return m
}

func (m matrix) times(s uint32) uint32 {
	t := uint32(0)
	for _, column := range m {
		if s&1 == 1 {
			t ^= column
		}
		s >>= 1
	}
	return t
}

// square is the same steps done twice.
func (m matrix) square() matrix {
	var q matrix
	for i, column := range m {
		q[i] = m.times(column)
	}
	return q
}
