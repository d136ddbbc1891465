package book_test

import (
	"slices"
	"testing"

	"novation/api"
	"novation/book"
	"novation/vec"
	"novation/wide"
)

const least, most = -1 << 63, 1<<63 - 1

func u(account, client int) api.Unit { return api.Unit{Account: account, Client: client} }

// legs makes a vector of pairs.
func legs(l ...int64) []api.Leg {
	var out []api.Leg
	for i := 0; i < len(l); i += 2 {
		out = append(out, api.Leg{Inst: int(l[i]), Qty: l[i+1]})
	}
	return out
}

func pos(unit api.Unit, l ...int64) api.Pos { return api.Pos{Unit: unit, Legs: legs(l...)} }

func like(a, b []api.Pos) bool {
	return slices.EqualFunc(a, b, func(x, y api.Pos) bool { return x.Unit == y.Unit && vec.Same(x.Legs, y.Legs) })
}

var none = [][]api.Pos{
	{pos(u(1, 1))}, {pos(u(1, 1), 1, 0)}, {pos(u(1, 1), 9, 1)}, {pos(u(1, 1), 2, 1, 1, 1)}, {pos(u(1, 2), 1, 1), pos(u(1, 1), 1, 1)}, {pos(u(1, 2), 1, 1), pos(u(1, 2), 1, 1)},
}

func TestP19_1(t *testing.T) {
	l := []api.Pos{pos(u(0, 0), 1, 1), pos(u(1, 1), 1, 5, 8, least), pos(u(2, 0), 3, most)}
	if !book.Is(nil) || !book.Is(l) {
		t.Error("are books")
	}
	for _, l := range none {
		if book.Is(l) {
			t.Error("is none", l)
		}
		bad := legs(9, 9)
		if m, e := book.Shift(l, u(1, 1), bad); len(m) > 0 || e != api.ErrForm {
			t.Error("Shift", m, e)
		}
		if m, e := book.Shift(l, u(7, 1), legs(1, 1)); len(m) > 0 || e != api.ErrForm {
			t.Error("Shift", m, e)
		}
		if m, e := book.Move(l, u(1, 1), u(1, 2), legs(1, least)); len(m) > 0 || e != api.ErrForm {
			t.Error("Move", m, e)
		}
		if m, e := book.Net(l); len(m) > 0 || e != api.ErrForm {
			t.Error("Net", m, e)
		}
		if n, e := book.Held(l); n != 0 || e != api.ErrForm {
			t.Error("Held", n, e)
		}
	}
	if !vec.Same(book.Of(l, u(1, 1)), l[1].Legs) || len(book.Of(l, u(1, 2))) > 0 || !vec.Same(book.Of(none[5], u(1, 2)), legs(1, 1)) {
		t.Error("Of")
	}
	book.Of(l, u(1, 1))[0].Qty = 9
	if l[1].Legs[0].Qty != 5 {
		t.Error("shared")
	}
}

func TestP19_2_Shift(t *testing.T) {
	l := []api.Pos{pos(u(1, 1), 1, 5), pos(u(2, 0), 3, -2)}
	for _, c := range []struct {
		unit api.Unit
		legs []api.Leg
		want []api.Pos
		e    api.Errno
	}{
		{u(1, 1), legs(1, 2, 4, 1), []api.Pos{pos(u(1, 1), 1, 7, 4, 1), l[1]}, api.OK},
		{u(1, 1), legs(1, -5), l[1:], api.OK},
		{u(1, 5), legs(1, -5), []api.Pos{l[0], pos(u(1, 5), 1, -5), l[1]}, api.OK},
		{u(0, 0), legs(1, -5), []api.Pos{pos(u(0, 0), 1, -5), l[0], l[1]}, api.OK},
		{u(9, 0), nil, l, api.OK},
		{u(1, 1), legs(1, most), nil, api.ErrRange},
		{u(1, 1), legs(1, 0), nil, api.ErrForm},
	} {
		m, e := book.Shift(l, c.unit, c.legs)
		if !like(m, c.want) || e != c.e {
			t.Error("Shift", c.unit, c.legs, m, e)
		}
		for i := range m {
			m[i].Legs[0].Qty = 77
		}
	}
	if l[0].Legs[0].Qty != 5 || l[1].Legs[0].Qty != -2 {
		t.Error("changed", l)
	}
}

func TestP19_2_Move(t *testing.T) {
	l := []api.Pos{pos(u(1, 1), 1, 5), pos(u(2, 0), 3, least)}
	for _, c := range []struct {
		from, to api.Unit
		legs     []api.Leg
		want     []api.Pos
		e        api.Errno
	}{
		{u(1, 1), u(2, 0), legs(1, 5), []api.Pos{pos(u(2, 0), 1, 5, 3, least)}, api.OK},
		{u(1, 1), u(1, 1), legs(1, 5), l, api.OK},
		{u(4, 4), u(1, 1), legs(2, -1), []api.Pos{pos(u(1, 1), 1, 5, 2, -1), l[1], pos(u(4, 4), 2, 1)}, api.OK},
		{u(2, 0), u(2, 0), legs(3, 1), nil, api.ErrRange},
		{u(1, 1), u(2, 0), legs(3, -1), nil, api.ErrRange},
		{u(1, 1), u(4, 0), legs(1, least), nil, api.ErrRange},
		{u(1, 1), u(2, 0), legs(0, 1), nil, api.ErrForm},
	} {
		if m, e := book.Move(l, c.from, c.to, c.legs); !like(m, c.want) || e != c.e {
			t.Error("Move", c, m, e)
		}
	}
	if m, e := book.Move(nil, u(1, 0), u(2, 0), legs(1, 5)); !like(m, []api.Pos{pos(u(1, 0), 1, -5), pos(u(2, 0), 1, 5)}) || e != api.OK {
		t.Error("Move of nothing", m, e)
	}
}

func TestP19_3(t *testing.T) {
	l := []api.Pos{pos(u(1, 1), 1, 5, 2, -3), pos(u(1, 2), 1, -5), pos(u(2, 0), 3, most), pos(u(2, 1), 3, least)}
	for _, c := range []struct {
		units []api.Unit
		want  []api.Leg
		e     api.Errno
		held  int64
		f     api.Errno
	}{
		{nil, nil, api.OK, 0, api.OK},
		{[]api.Unit{u(1, 1), u(1, 2), u(7, 7)}, legs(2, -3), api.OK, 13, api.OK},
		{[]api.Unit{u(1, 1), u(1, 1)}, legs(1, 10, 2, -6), api.OK, 16, api.OK},
		{[]api.Unit{u(2, 0), u(2, 0)}, nil, api.ErrRange, 0, api.ErrRange},
		{[]api.Unit{u(2, 0), u(2, 1)}, legs(3, -1), api.OK, 0, api.ErrRange},
		{[]api.Unit{u(2, 0)}, legs(3, most), api.OK, most, api.OK},
	} {
		if m, e := book.Net(l, c.units...); !vec.Same(m, c.want) || e != c.e {
			t.Error("Net", c.units, m, e)
		}
		if n, e := book.Held(l, c.units...); n != c.held || e != c.f {
			t.Error("Held", c.units, n, e)
		}
	}
	if book.Open(l, 1) != wide.Of(0) || book.Open(l, 2) != wide.Of(-3) || book.Open(l, 3) != wide.Of(-1) || book.Open(l, 4) != wide.Of(0) || book.Open([]api.Pos{l[2], l[2]}, 3).Lo != 1<<64-2 {
		t.Error("Open")
	}
	if book.Balanced(l) || !book.Balanced(nil) || !book.Balanced([]api.Pos{pos(u(1, 1), 8, 5), pos(u(1, 2), 8, -5)}) || book.Balanced([]api.Pos{pos(u(1, 1), 8, 5)}) || book.Balanced([]api.Pos{pos(u(1, 1), 1, 5)}) {
		t.Error("Balanced")
	}
}

func TestP19_4(t *testing.T) {
	l := []api.Pos{pos(u(1, 1), 1, 5, 2, -3), pos(u(1, 2), 1, -5), pos(u(3, 1), 4, 1)}
	for _, from := range []api.Unit{u(1, 1), u(1, 2), u(2, 2)} {
		for _, to := range []api.Unit{u(1, 1), u(1, 2), u(2, 2)} {
			m, e := book.Move(l, from, to, legs(1, 5, 2, 1))
			for inst := range 9 {
				if e != api.OK || book.Open(m, inst) != book.Open(l, inst) || !vec.Same(book.Of(m, u(3, 1)), legs(4, 1)) {
					t.Error("Move", from, to, m, e)
				}
			}
			if back, e := book.Move(m, to, from, legs(1, 5, 2, 1)); !like(back, l) || e != api.OK {
				t.Error("there and back", from, to, back, e)
			}
		}
	}
}
