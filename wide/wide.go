// Package wide is layer 1: whole numbers of 128 bits. See shared/doc/01-wide.md.
package wide

import (
	"math/bits"
	"strconv"
	"strings"

	"novation/api"
)

// Wide is a number of 128 bits: Hi times 2^64, and Lo.
type Wide struct {
	Hi int64
	Lo uint64
}

// sum is a number of 192 bits: room enough for what comes between.
type sum struct {
	Wide
	top int64
}

// long answers a number with its sign spread over the highest bits.
func long(w Wide) sum { return sum{w, w.Hi >> 63} }

func (s sum) plus(t sum) sum {
	lo, c := bits.Add64(s.Lo, t.Lo, 0)
	hi, c := bits.Add64(uint64(s.Hi), uint64(t.Hi), c)
	top, _ := bits.Add64(uint64(s.top), uint64(t.top), c)
	return sum{Wide{int64(hi), lo}, int64(top)}
}

func (s sum) minus() sum {
	lo, b := bits.Sub64(0, s.Lo, 0)
	hi, b := bits.Sub64(0, uint64(s.Hi), b)
	top, _ := bits.Sub64(0, uint64(s.top), b)
	return sum{Wide{int64(hi), lo}, int64(top)}
}

// narrow answers what is left when the highest bits say no more than the sign.
func (s sum) narrow() (Wide, api.Errno) {
	if s.top != s.Hi>>63 {
		return Wide{}, api.ErrRange
	}
	return s.Wide, api.OK
}

// size answers a number without its sign: 2^127 has no Wide of its own.
func size(w Wide) (hi, lo uint64) {
	s := long(w)
	if w.Hi < 0 {
		s = s.minus()
	}
	return uint64(s.Hi), s.Lo
}

// Of answers a number as a wide one.
func Of(n int64) Wide { return Wide{n >> 63, uint64(n)} }

// Mul answers a product.
func Mul(a, b int64) Wide {
	w, _ := Times(Of(a), b)
	return w
}

// Int answers a number that is none too wide.
func Int(w Wide) (int64, api.Errno) {
	n := int64(w.Lo)
	if w.Hi != n>>63 {
		return 0, api.ErrRange
	}
	return n, api.OK
}

// Cmp compares two numbers.
func Cmp(a, b Wide) int {
	switch {
	case a == b:
		return 0
	case a.Hi < b.Hi || a.Hi == b.Hi && a.Lo < b.Lo:
		return -1
	}
	return 1
}

// Sign answers which side of 0 a number is on.
func Sign(w Wide) int { return Cmp(w, Wide{}) }

// Add answers a sum.
func Add(l ...Wide) (Wide, api.Errno) {
	var s sum
	for _, w := range l {
		s = s.plus(long(w))
	}
	return s.narrow()
}

// Sub answers a difference.
func Sub(a, b Wide) (Wide, api.Errno) { return long(a).plus(long(b).minus()).narrow() }

// Neg answers a number on the other side.
func Neg(w Wide) (Wide, api.Errno) { return long(w).minus().narrow() }

// Times answers a product.
func Times(w Wide, n int64) (Wide, api.Errno) {
	hi, lo := size(w)
	_, k := size(Of(n))
	carry, low := bits.Mul64(lo, k)
	top, mid := bits.Mul64(hi, k)
	mid, c := bits.Add64(mid, carry, 0)
	s := sum{Wide{int64(mid), low}, int64(top + c)}
	if (w.Hi < 0) != (n < 0) {
		s = s.minus()
	}
	return s.narrow()
}

// Div divides downwards, and answers what is left.
func Div(w Wide, d int64) (Wide, int64, api.Errno) {
	if d == 0 {
		return Wide{}, 0, api.ErrZero
	}
	if d < 0 {
		return Wide{}, 0, api.ErrArg
	}
	hi, lo := size(w)
	high, low, r := divide(hi, lo, uint64(d))
	q := sum{Wide: Wide{int64(high), low}}
	rest := int64(r)
	if w.Hi < 0 {
		q = q.minus()
		if rest > 0 {
			q = q.plus(long(Of(-1)))
			rest = d - rest
		}
	}
	return q.Wide, rest, api.OK
}

func divide(hi, lo, d uint64) (high, low, rest uint64) {
	high, rest = hi/d, hi%d
	low, rest = bits.Div64(rest, lo, d)
	return high, low, rest
}

// Text answers a number as digits.
func Text(w Wide) string {
	const chunk = 1e19 // the greatest power of ten of 64 bits
	const digits = 19
	hi, lo := size(w)
	text := ""
	for hi > 0 || lo >= chunk {
		var rest uint64
		hi, lo, rest = divide(hi, lo, chunk)
		part := strconv.FormatUint(rest, 10)
		text = strings.Repeat("0", digits-len(part)) + part + text
	}
	text = strconv.FormatUint(lo, 10) + text
	if w.Hi < 0 {
		text = "-" + text
	}
	return text
}
