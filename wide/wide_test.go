package wide_test

import (
	"math/big"
	"testing"

	"novation/api"
	"novation/wide"
)

const least, most = -1 << 63, 1<<63 - 1

var edges = []int64{least, least + 1, -1 << 62, -1 << 32, -10, -7, -1, 0, 1, 2, 7, 1 << 31, 1 << 40, 1 << 62, most - 1, most}

func wides() []wide.Wide {
	var l []wide.Wide
	for _, hi := range edges {
		for _, lo := range []uint64{0, 1, 9, 1 << 63, 1<<63 - 1, 1<<64 - 1, 10000000000000000000} {
			l = append(l, wide.Wide{hi, lo})
		}
	}
	return l
}

func bigOf(w wide.Wide) *big.Int {
	b := new(big.Int).Lsh(big.NewInt(w.Hi), 64)
	return b.Add(b, new(big.Int).SetUint64(w.Lo))
}

func fits(b *big.Int) bool {
	edge := new(big.Int).Lsh(big.NewInt(1), 127)
	return b.Cmp(edge) < 0 && b.Cmp(new(big.Int).Neg(edge)) >= 0
}

// meets tells whether an answer is what unbounded numbers say.
func meets(t *testing.T, what string, w wide.Wide, e api.Errno, b *big.Int) {
	t.Helper()
	if !fits(b) {
		if e != api.ErrRange || w != (wide.Wide{}) {
			t.Errorf("%s: %v %d, not ErrRange of %v", what, w, e, b)
		}
		return
	}
	if e != api.OK || bigOf(w).Cmp(b) != 0 {
		t.Errorf("%s: %v %d, not %v", what, bigOf(w), e, b)
	}
}

func TestP1_1(t *testing.T) {
	for _, a := range edges {
		if bigOf(wide.Of(a)).Cmp(big.NewInt(a)) != 0 {
			t.Error("Of", a)
		}
		if n, e := wide.Int(wide.Of(a)); n != a || e != api.OK {
			t.Error("Int", a, n, e)
		}
		for _, b := range edges {
			meets(t, "Mul", wide.Mul(a, b), api.OK, new(big.Int).Mul(big.NewInt(a), big.NewInt(b)))
		}
	}
	for _, a := range wides() {
		n, e := wide.Int(a)
		if b := bigOf(a); b.IsInt64() != (e == api.OK) || e == api.OK && b.Int64() != n || e != api.OK && (n != 0 || e != api.ErrRange) {
			t.Error("Int", a, n, e)
		}
		if wide.Sign(a) != bigOf(a).Sign() {
			t.Error("Sign", a)
		}
		for _, b := range wides() {
			if wide.Cmp(a, b) != bigOf(a).Cmp(bigOf(b)) {
				t.Error("Cmp", a, b)
			}
		}
	}
}

func TestP1_2(t *testing.T) {
	if w, e := wide.Add(); w != (wide.Wide{}) || e != api.OK {
		t.Error("Add of none", w, e)
	}
	top := wide.Wide{most, 1<<64 - 1}
	if w, e := wide.Add(top, top, wide.Of(1), wide.Wide{least, 0}, wide.Of(-1)); w != (wide.Wide{most, 1<<64 - 2}) || e != api.OK {
		t.Error("Add beyond the edge and back", w, e)
	}
	if w, e := wide.Add(top, top, top, top, wide.Of(1)); w != (wide.Wide{}) || e != api.ErrRange {
		t.Error("Add far beyond the edge", w, e)
	}
	for _, a := range wides() {
		w, e := wide.Neg(a)
		meets(t, "Neg", w, e, new(big.Int).Neg(bigOf(a)))
		for _, b := range wides() {
			w, e = wide.Add(a, b)
			meets(t, "Add", w, e, new(big.Int).Add(bigOf(a), bigOf(b)))
			w, e = wide.Sub(a, b)
			meets(t, "Sub", w, e, new(big.Int).Sub(bigOf(a), bigOf(b)))
			w, e = wide.Add(a, b, top, wide.Wide{least, 0}, wide.Of(1))
			meets(t, "Add of five", w, e, new(big.Int).Add(bigOf(a), bigOf(b)))
		}
		for _, n := range edges {
			w, e = wide.Times(a, n)
			meets(t, "Times", w, e, new(big.Int).Mul(bigOf(a), big.NewInt(n)))
		}
	}
}

func TestP1_3_P1_5(t *testing.T) {
	if q, r, e := wide.Div(wide.Of(-7), 2); wide.Text(q) != "-4" || r != 1 || e != api.OK {
		t.Error("-7 by 2", q, r, e)
	}
	for _, a := range wides() {
		for _, d := range edges {
			q, r, e := wide.Div(a, d)
			switch {
			case d == 0 && (e != api.ErrZero || q != (wide.Wide{}) || r != 0):
				t.Error("by 0", q, r, e)
			case d < 0 && (e != api.ErrArg || q != (wide.Wide{}) || r != 0):
				t.Error("by less than 0", q, r, e)
			case d <= 0:
				continue
			}
			if e != api.OK || r < 0 || r >= d {
				t.Error("Div", a, d, q, r, e)
			}
			back := new(big.Int).Mul(bigOf(q), big.NewInt(d))
			if back.Add(back, big.NewInt(r)).Cmp(bigOf(a)) != 0 {
				t.Error("Div there and back", a, d, q, r)
			}
		}
	}
}

func TestP1_4(t *testing.T) {
	for _, a := range wides() {
		if wide.Text(a) != bigOf(a).String() {
			t.Error(wide.Text(a), bigOf(a))
		}
	}
	for _, n := range []int64{10, 100000, -100} {
		w := wide.Mul(n*10000000000000, 1000000000000)
		if wide.Text(w) != bigOf(w).String() {
			t.Error(wide.Text(w))
		}
	}
}
