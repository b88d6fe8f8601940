package impl

import (
	"cmp"
	"math"
)

const (
	MaxPart = 1000000000
)

// All NaNs count as one number, so one row of bits of each width stands for all of them.
const (
	nanBits  uint64 = 9221120237041090560
	nanShort uint32 = 2143289344
)

// Go leaves open what a number above the greatest float32 turns into, so the
// bits of the two infinite ones are told here. infiniteFrom is half-way between
// the greatest float32 and the power of 2 behind it: of these two the power has
// the even fraction, so half-way itself already rounds above the greatest one.
const (
	infiniteFrom          = 0x1.ffffffp127
	infiniteShort  uint32 = 2139095040
	shortBelowZero uint32 = 1 << 31
)

type Frac struct {
	Num int64
	Den int64
}

func Same(a float64, b float64) bool {
	return BitsOf(a) == BitsOf(b)
}

func Known(x float64) bool {
	return !math.IsNaN(x) && !math.IsInf(x, 0)
}

func BitsOf(x float64) uint64 {
	if math.IsNaN(x) {
		return nanBits
	}
	return math.Float64bits(x)
}

func FloatOf(bits uint64) float64 {
	return math.Float64frombits(bits)
}

func Short(x float64) uint32 {
	switch {
	case math.IsNaN(x):
		return nanShort
	case x >= infiniteFrom:
		return infiniteShort
	case x <= -infiniteFrom:
		return infiniteShort | shortBelowZero
	}
	return math.Float32bits(float32(x))
}

func Long(bits uint32) float64 {
	return float64(math.Float32frombits(bits))
}

func MakeFrac(num int64, den int64) (Frac, bool) {
	if den == 0 {
		return Frac{}, false
	}
	top, low := sizeOf(num), sizeOf(den)
	common := greatestDivisor(top, low)
	top, low = top/common, low/common
	if top > MaxPart || low > MaxPart {
		return Frac{}, false
	}
	f := Frac{Num: int64(top), Den: int64(low)}
	if (num < 0) != (den < 0) {
		f.Num = -f.Num
	}
	return f, true
}

func AddFrac(a Frac, b Frac) (Frac, bool) {
	if !a.right() || !b.right() {
		return Frac{}, false
	}
	return a.plus(b)
}

func MulFrac(a Frac, b Frac) (Frac, bool) {
	if !a.right() || !b.right() {
		return Frac{}, false
	}
	return a.times(b)
}

func CmpFrac(a Frac, b Frac) int64 {
	if !a.right() || !b.right() {
		return -2
	}
	return a.against(b)
}

func (f Frac) right() bool {
	return within(f.Den, 1, MaxPart) && within(f.Num, -MaxPart, MaxPart) &&
		greatestDivisor(sizeOf(f.Num), sizeOf(f.Den)) == 1
}

// plus, times and against are asked of right fractions only: no part is above
// MaxPart then, so each product is at most 10 to the 18 and a sum of two of
// them still an int64.
func (f Frac) plus(g Frac) (Frac, bool) {
	return MakeFrac(f.Num*g.Den+g.Num*f.Den, f.Den*g.Den)
}

func (f Frac) times(g Frac) (Frac, bool) {
	return MakeFrac(f.Num*g.Num, f.Den*g.Den)
}

func (f Frac) against(g Frac) int64 {
	return int64(cmp.Compare(f.Num*g.Den, g.Num*f.Den))
}

func within(n int64, low int64, high int64) bool {
	return low <= n && n <= high
}

// sizeOf answers a uint64 because the least int64 without its sign is no int64.
func sizeOf(n int64) uint64 {
	if n < 0 {
		return 0 - uint64(n)
	}
	return uint64(n)
}

func greatestDivisor(a uint64, b uint64) uint64 {
	for b != 0 {
		a, b = b, a%b
	}
	return a
}
