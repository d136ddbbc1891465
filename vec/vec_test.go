package vec_test

import (
	"testing"

	"novation/api"
	"novation/vec"
)

const least, most = -1 << 63, 1<<63 - 1

type legs = []api.Leg

var none = []legs{{{Inst: 0, Qty: 1}}, {{Inst: 9, Qty: 1}}, {{Inst: 1, Qty: 0}}, {{Inst: 2, Qty: 1}, {Inst: 1, Qty: 1}}, {{Inst: 1, Qty: 1}, {Inst: 1, Qty: 1}}}

func TestP11_1(t *testing.T) {
	for _, l := range []legs{nil, {}, {{Inst: 1, Qty: least}, {Inst: 8, Qty: most}}} {
		if !vec.Is(l) {
			t.Error("is one", l)
		}
	}
	for _, l := range none {
		if vec.Is(l) {
			t.Error("is none", l)
		}
	}
	l := legs{{Inst: 3, Qty: 5}, {Inst: 3, Qty: 6}, {Inst: 1, Qty: -7}}
	if vec.Get(l, 3) != 5 || vec.Get(l, 1) != -7 || vec.Get(l, 2) != 0 || vec.Get(nil, 1) != 0 {
		t.Error("Get")
	}
}

func TestP11_2_Add(t *testing.T) {
	for _, c := range []struct {
		l    []legs
		want legs
		e    api.Errno
	}{
		{[]legs{{{Inst: 1, Qty: 5}, {Inst: 2, Qty: -3}}, {{Inst: 1, Qty: -5}}}, legs{{Inst: 2, Qty: -3}}, api.OK},
		{nil, nil, api.OK},
		{[]legs{nil, {{Inst: 8, Qty: 2}}, {{Inst: 1, Qty: 1}}}, legs{{Inst: 1, Qty: 1}, {Inst: 8, Qty: 2}}, api.OK},
		{[]legs{{{Inst: 1, Qty: most}}, {{Inst: 1, Qty: 1}}, {{Inst: 1, Qty: -1}}}, legs{{Inst: 1, Qty: most}}, api.OK},
		{[]legs{{{Inst: 1, Qty: most}}, {{Inst: 1, Qty: 1}}}, nil, api.ErrRange},
		{[]legs{{{Inst: 1, Qty: most}}, {{Inst: 1, Qty: 1}}, none[0]}, nil, api.ErrForm},
	} {
		if l, e := vec.Add(c.l...); !vec.Same(l, c.want) || e != c.e {
			t.Error("Add", c.l, l, e)
		}
	}
	for _, l := range none {
		if x, e := vec.Add(l); len(x) > 0 || e != api.ErrForm {
			t.Error("Add of none", l, x, e)
		}
		if x, e := vec.Neg(l); len(x) > 0 || e != api.ErrForm {
			t.Error("Neg of none", l, x, e)
		}
		if x, e := vec.With(l, api.Leg{Inst: 1, Qty: 0}); len(x) > 0 || e != api.ErrForm {
			t.Error("With of none", l, x, e)
		}
		if n, e := vec.Gross(l); n != 0 || e != api.ErrForm {
			t.Error("Gross of none", l, n, e)
		}
	}
}

func TestP11_2_Neg_With(t *testing.T) {
	v := legs{{Inst: 1, Qty: 5}, {Inst: 4, Qty: -2}}
	if l, e := vec.Neg(v); !vec.Same(l, legs{{Inst: 1, Qty: -5}, {Inst: 4, Qty: 2}}) || e != api.OK {
		t.Error("Neg", l, e)
	}
	if l, e := vec.Neg(legs{{Inst: 1, Qty: least}}); len(l) > 0 || e != api.ErrRange {
		t.Error("Neg of the least", l, e)
	}
	for _, c := range []struct {
		leg  api.Leg
		want legs
		e    api.Errno
	}{
		{api.Leg{Inst: 1, Qty: -5}, legs{{Inst: 4, Qty: -2}}, api.OK},
		{api.Leg{Inst: 2, Qty: 3}, legs{{Inst: 1, Qty: 5}, {Inst: 2, Qty: 3}, {Inst: 4, Qty: -2}}, api.OK},
		{api.Leg{Inst: 2}, v, api.OK},
		{api.Leg{Inst: 8, Qty: 1}, legs{{Inst: 1, Qty: 5}, {Inst: 4, Qty: -2}, {Inst: 8, Qty: 1}}, api.OK},
		{api.Leg{Inst: 0}, nil, api.ErrForm},
		{api.Leg{Inst: 9, Qty: 1}, nil, api.ErrForm},
		{api.Leg{Inst: 1, Qty: most}, nil, api.ErrRange},
	} {
		if l, e := vec.With(v, c.leg); !vec.Same(l, c.want) || e != c.e {
			t.Error("With", c.leg, l, e)
		}
	}
	w, _ := vec.With(v, api.Leg{Inst: 2})
	w[0].Qty = 9
	if v[0].Qty != 5 {
		t.Error("shared")
	}
}

func TestP11_3(t *testing.T) {
	for _, c := range []struct {
		l legs
		n int64
		e api.Errno
	}{
		{nil, 0, api.OK}, {legs{{Inst: 1, Qty: -5}, {Inst: 3, Qty: 4}}, 9, api.OK}, {legs{{Inst: 1, Qty: least}}, 0, api.ErrRange},
		{legs{{Inst: 1, Qty: -most}, {Inst: 2, Qty: 1}}, 0, api.ErrRange}, {legs{{Inst: 1, Qty: -most}}, most, api.OK},
	} {
		if n, e := vec.Gross(c.l); n != c.n || e != c.e {
			t.Error("Gross", c.l, n, e)
		}
	}
	a := legs{{Inst: 1, Qty: 5}, {Inst: 3, Qty: 4}}
	if !vec.Same(a, legs{{Inst: 1, Qty: 5}, {Inst: 3, Qty: 4}}) || vec.Same(a, a[:1]) || vec.Same(a, legs{a[1], a[0]}) || vec.Same(a, legs{{Inst: 1, Qty: 5}, {Inst: 3, Qty: 5}}) || !vec.Same(nil, legs{}) {
		t.Error("Same")
	}
}

func TestP11_4(t *testing.T) {
	l := []legs{{{Inst: 1, Qty: most}}, {{Inst: 1, Qty: most}, {Inst: 5, Qty: 2}}, {{Inst: 1, Qty: least}}, {{Inst: 5, Qty: -2}, {Inst: 7, Qty: 1}}}
	want, _ := vec.Add(l...)
	for range l {
		l = append(l[1:], l[0])
		if v, e := vec.Add(l...); !vec.Same(v, want) || e != api.OK || !vec.Is(v) {
			t.Error("Add by order", v, e)
		}
	}
	minus, _ := vec.Neg(want)
	if v, e := vec.Add(want, minus); len(v) != 0 || e != api.OK || !vec.Is(minus) {
		t.Error("with its Neg", v, e)
	}
}
