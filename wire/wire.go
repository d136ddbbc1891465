// Package wire writes and reads as bytes what several layers have: numbers, units, legs, lots, and lists.
package wire

import (
	"math"

	"novation/api"
	"novation/pack"
)

// Writer is a writer of bytes that writes more than numbers.
type Writer struct{ *pack.Writer }

// New answers a writer.
func New() Writer { return Writer{pack.New()} }

// Ints writes numbers.
func (w Writer) Ints(l ...int) {
	for _, n := range l {
		w.Int(int64(n))
	}
}

// Unit writes a unit.
func (w Writer) Unit(u api.Unit) { w.Ints(u.Account, u.Client) }

// Leg writes a leg.
func (w Writer) Leg(l api.Leg) {
	w.Ints(l.Inst)
	w.Int(l.Qty)
}

// Lot writes a lot.
func (w Writer) Lot(l api.Lot) {
	w.Ints(l.Asset, l.Tag)
	w.Int(l.Qty)
}

// Put writes a list: how many, and each one.
func Put[T any](w Writer, l []T, one func(T)) {
	w.Ints(len(l))
	for _, x := range l {
		one(x)
	}
}

// Reader is a reader of bytes that reads the same.
type Reader struct{ *pack.Reader }

// Open answers a reader.
func Open(b []byte) Reader { return Reader{pack.Open(b)} }

// Long reads a number, whatever it is.
func (r Reader) Long() int64 { return r.Int(math.MinInt64, math.MaxInt64) }

// Number reads a number, whatever it is.
func (r Reader) Number() int { return int(r.Long()) }

// Unit reads a unit.
func (r Reader) Unit() api.Unit { return api.Unit{Account: r.Number(), Client: r.Number()} }

// Leg reads a leg.
func (r Reader) Leg() api.Leg { return api.Leg{Inst: r.Number(), Qty: r.Long()} }

// Lot reads a lot.
func (r Reader) Lot() api.Lot { return api.Lot{Asset: r.Number(), Tag: r.Number(), Qty: r.Long()} }

// List reads a list: how many, and each one. Each takes a byte at least, so that no more of them than bytes are tried.
func List[T any](r Reader, most int, one func() T) []T {
	n := r.Int(0, int64(most))
	var out []T
	for range n {
		x := one()
		if r.Err() != api.OK {
			return nil
		}
		out = append(out, x)
	}
	return out
}
