package ratio

import "math/bits"

// wide is a product of two magnitudes: a number of 128 bits.
type wide struct{ high, low uint64 }

func multiply(a, b uint64) wide {
	high, low := bits.Mul64(a, b)
	return wide{high, low}
}

func (w wide) less(other wide) bool {
	return w.high < other.high || w.high == other.high && w.low < other.low
}

func (w wide) plus(other wide) wide {
	low, carry := bits.Add64(w.low, other.low, 0)
	high, _ := bits.Add64(w.high, other.high, carry)
	return wide{high, low}
}

func (w wide) minus(other wide) wide {
	low, borrow := bits.Sub64(w.low, other.low, 0)
	high, _ := bits.Sub64(w.high, other.high, borrow)
	return wide{high, low}
}

func (w wide) modulo(divisor uint64) uint64 {
	return bits.Rem64(w.high, w.low, divisor)
}

func (w wide) divided(divisor uint64) wide {
	low, _ := bits.Div64(w.high%divisor, w.low, divisor)
	return wide{w.high / divisor, low}
}
