package fix_test

import (
	"math/big"
	"testing"

	"novation/api"
	"novation/fix"
)

const least, most = -1 << 63, 1<<63 - 1

var edges = []int64{least, least + 1, -1 << 62, -1 << 32, -3, -2, -1, 0, 1, 2, 3, 7, 1 << 31, 1 << 62, most - 1, most}

// meets tells whether an answer is what unbounded numbers say.
func meets(t *testing.T, what string, n int64, e api.Errno, b *big.Int) {
	t.Helper()
	if b.IsInt64() != (e == api.OK) || e == api.OK && n != b.Int64() || e != api.OK && (n != 0 || e != api.ErrRange) {
		t.Errorf("%s: %d %d, not %v", what, n, e, b)
	}
}

func TestP2_1(t *testing.T) {
	if n, e := fix.Sum(); n != 0 || e != api.OK {
		t.Error("Sum of none", n, e)
	}
	if n, e := fix.Product(); n != 1 || e != api.OK {
		t.Error("Product of none", n, e)
	}
	if n, e := fix.Sum(most, 1, -1); n != most || e != api.OK {
		t.Error("Sum beyond the edge and back", n, e)
	}
	if n, e := fix.Product(1<<62, 4, 0); n != 0 || e != api.ErrRange {
		t.Error("Product beyond the edge and back", n, e)
	}
	if n, e := fix.Product(0, most, most); n != 0 || e != api.OK {
		t.Error("Product from 0 on", n, e)
	}
	for _, a := range edges {
		for _, b := range edges {
			x, y := big.NewInt(a), big.NewInt(b)
			n, e := fix.Sum(a, b)
			meets(t, "Sum", n, e, new(big.Int).Add(x, y))
			n, e = fix.Sub(a, b)
			meets(t, "Sub", n, e, new(big.Int).Sub(x, y))
			n, e = fix.Product(a, b)
			meets(t, "Product", n, e, new(big.Int).Mul(x, y))
		}
	}
}

func TestP2_2_P2_4(t *testing.T) {
	if q, r, e := fix.Scale(7, 3, 2); q != 10 || r != 1 || e != api.OK {
		t.Error("7 times 3 by 2", q, r, e)
	}
	if n, e := fix.Up(7, 3, 2); n != 11 || e != api.OK {
		t.Error("7 times 3 by 2, upwards", n, e)
	}
	for _, a := range edges {
		for _, n := range edges {
			for _, d := range edges {
				scales(t, a, n, d)
			}
		}
	}
}

func scales(t *testing.T, a, n, d int64) {
	q, r, e := fix.Scale(a, n, d)
	u, f := fix.Up(a, n, d)
	want := api.ErrArg
	if d == 0 {
		want = api.ErrZero
	}
	if d <= 0 {
		if q != 0 || r != 0 || e != want || u != 0 || f != want {
			t.Error("Scale", a, n, d, q, r, e, u, f)
		}
		return
	}
	p := new(big.Int).Mul(big.NewInt(a), big.NewInt(n))
	m := new(big.Int)
	down, _ := new(big.Int).DivMod(p, big.NewInt(d), m)
	meets(t, "Scale", q, e, down)
	if e == api.OK && r != m.Int64() || e != api.OK && r != 0 {
		t.Error("Scale's rest", a, n, d, q, r)
	}
	if m.Sign() > 0 {
		down.Add(down, big.NewInt(1))
	}
	meets(t, "Up", u, f, down)
}

func TestP2_3(t *testing.T) {
	for _, a := range edges {
		n, e := fix.Abs(a)
		meets(t, "Abs", n, e, new(big.Int).Abs(big.NewInt(a)))
		if fix.Most(a) != a || fix.Least(a) != a {
			t.Error("of one alone", a)
		}
		for _, b := range edges {
			if fix.Most(a, b, least) != max(a, b) || fix.Least(a, most, b) != min(a, b) {
				t.Error("Most, Least", a, b)
			}
			for _, c := range edges {
				want := max(min(a, c), b)
				if b > c {
					want = b
				}
				if fix.Clip(a, b, c) != want {
					t.Error("Clip", a, b, c)
				}
			}
		}
	}
}

func TestP2_4(t *testing.T) {
	l := []int64{most, least, most, 5, -7, least}
	want, e := fix.Sum(l...)
	for range l {
		l = append(l[1:], l[0])
		if n, f := fix.Sum(l...); n != want || e != f {
			t.Error("Sum by order", n, f)
		}
	}
}
