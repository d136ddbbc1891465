package vec

import (
	"testing"

	"novation/api"
)

const least, most = -1 << 63, 1<<63 - 1

type legs = []api.Leg

var none = []legs{{{Inst: 0, Qty: 1}}, {{Inst: 9, Qty: 1}}, {{Inst: 1, Qty: 0}}, {{Inst: 2, Qty: 1}, {Inst: 1, Qty: 1}}, {{Inst: 1, Qty: 1}, {Inst: 1, Qty: 1}}}

func TestP11_1(t *testing.T) {
	for _, l := range []legs{nil, {}, {{Inst: 1, Qty: least}, {Inst: 8, Qty: most}}} {
		if !Is(l) {
			t.Error("is one", l)
		}
	}
	for _, l := range none {
		if Is(l) {
			t.Error("is none", l)
		}
	}
	l := legs{{Inst: 3, Qty: 5}, {Inst: 3, Qty: 6}, {Inst: 1, Qty: -7}}
	if Get(l, 3) != 5 || Get(l, 1) != -7 || Get(l, 2) != 0 || Get(nil, 1) != 0 {
		t.Error("Get")
	}
}

func TestP11_2_Add(t *testing.T) {
	for _, c := range []struct {
		l    []legs
		want legs
		e    api.Errno
	}{
		{[]legs{{{Inst: 1, Qty: 5}, {Inst: 2, Qty: -3}}, {{Inst: 1, Qty: -5}}}, legs{{Inst: 2, Qty: -3}}, api.OK},
		{nil, nil, api.OK},
		{[]legs{nil, {{Inst: 8, Qty: 2}}, {{Inst: 1, Qty: 1}}}, legs{{Inst: 1, Qty: 1}, {Inst: 8, Qty: 2}}, api.OK},
		{[]legs{{{Inst: 1, Qty: most}}, {{Inst: 1, Qty: 1}}, {{Inst: 1, Qty: -1}}}, legs{{Inst: 1, Qty: most}}, api.OK},
		{[]legs{{{Inst: 1, Qty: most}}, {{Inst: 1, Qty: 1}}}, nil, api.ErrRange},
		{[]legs{{{Inst: 1, Qty: most}}, {{Inst: 1, Qty: 1}}, none[0]}, nil, api.ErrForm},
	} {
		if l, e := Add(c.l...); !Same(l, c.want) || e != c.e {
			t.Error("Add", c.l, l, e)
		}
	}
	for _, l := range none {
		if x, e := Add(l); x != nil || e != api.ErrForm {
			t.Error("Add of none", l, x, e)
		}
		if x, e := Neg(l); x != nil || e != api.ErrForm {
			t.Error("Neg of none", l, x, e)
		}
		if x, e := With(l, api.Leg{Inst: 1, Qty: 0}); x != nil || e != api.ErrForm {
			t.Error("With of none", l, x, e)
		}
		if n, e := Gross(l); n != 0 || e != api.ErrForm {
			t.Error("Gross of none", l, n, e)
		}
	}
}

func TestP11_2_Neg_With(t *testing.T) {
	v := legs{{Inst: 1, Qty: 5}, {Inst: 4, Qty: -2}}
	if l, e := Neg(v); !Same(l, legs{{Inst: 1, Qty: -5}, {Inst: 4, Qty: 2}}) || e != api.OK {
		t.Error("Neg", l, e)
	}
	if l, e := Neg(legs{{Inst: 1, Qty: least}}); l != nil || e != api.ErrRange {
		t.Error("Neg of the least", l, e)
	}
	for _, c := range []struct {
		leg  api.Leg
		want legs
		e    api.Errno
	}{
		{api.Leg{Inst: 1, Qty: -5}, legs{{Inst: 4, Qty: -2}}, api.OK},
		{api.Leg{Inst: 2, Qty: 3}, legs{{Inst: 1, Qty: 5}, {Inst: 2, Qty: 3}, {Inst: 4, Qty: -2}}, api.OK},
		{api.Leg{Inst: 2}, v, api.OK},
		{api.Leg{Inst: 0}, nil, api.ErrForm},
		{api.Leg{Inst: 9, Qty: 1}, nil, api.ErrForm},
		{api.Leg{Inst: 1, Qty: most}, nil, api.ErrRange},
	} {
		if l, e := With(v, c.leg); !Same(l, c.want) || e != c.e {
			t.Error("With", c.leg, l, e)
		}
	}
	w, _ := With(v, api.Leg{Inst: 2})
	w[0].Qty = 9
	if v[0].Qty != 5 {
		t.Error("shared")
	}
}

func TestP11_3(t *testing.T) {
	for _, c := range []struct {
		l legs
		n int64
		e api.Errno
	}{
		{nil, 0, api.OK}, {legs{{Inst: 1, Qty: -5}, {Inst: 3, Qty: 4}}, 9, api.OK}, {legs{{Inst: 1, Qty: least}}, 0, api.ErrRange},
		{legs{{Inst: 1, Qty: -most}, {Inst: 2, Qty: 1}}, 0, api.ErrRange}, {legs{{Inst: 1, Qty: -most}}, most, api.OK},
	} {
		if n, e := Gross(c.l); n != c.n || e != c.e {
			t.Error("Gross", c.l, n, e)
		}
	}
	a := legs{{Inst: 1, Qty: 5}, {Inst: 3, Qty: 4}}
	if !Same(a, legs{{Inst: 1, Qty: 5}, {Inst: 3, Qty: 4}}) || Same(a, a[:1]) || Same(a, legs{a[1], a[0]}) || Same(a, legs{{Inst: 1, Qty: 5}, {Inst: 3, Qty: 5}}) || !Same(nil, legs{}) {
		t.Error("Same")
	}
}

func TestP11_4(t *testing.T) {
	l := []legs{{{Inst: 1, Qty: most}}, {{Inst: 1, Qty: most}, {Inst: 5, Qty: 2}}, {{Inst: 1, Qty: least}}, {{Inst: 5, Qty: -2}, {Inst: 7, Qty: 1}}}
	want, _ := Add(l...)
	for range l {
		l = append(l[1:], l[0])
		if v, e := Add(l...); !Same(v, want) || e != api.OK || !Is(v) {
			t.Error("Add by order", v, e)
		}
	}
	minus, _ := Neg(want)
	if v, e := Add(want, minus); len(v) != 0 || e != api.OK || !Is(minus) {
		t.Error("with its Neg", v, e)
	}
}
