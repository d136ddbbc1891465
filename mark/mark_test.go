package mark_test

import (
	"slices"
	"testing"

	"novation/api"
	"novation/mark"
	"novation/purse"
	"novation/wide"
)

const least, most = -1 << 63, 1<<63 - 1

func u(account, client int) api.Unit { return api.Unit{Account: account, Client: client} }

func legs(l ...int64) []api.Leg {
	var out []api.Leg
	for i := 0; i < len(l); i += 2 {
		out = append(out, api.Leg{Inst: int(l[i]), Qty: l[i+1]})
	}
	return out
}

func pos(unit api.Unit, l ...int64) api.Pos { return api.Pos{Unit: unit, Legs: legs(l...)} }

func f(account, client int, amount int64) api.Flow {
	return api.Flow{Unit: u(account, client), Amount: amount}
}

func insts() []api.Inst {
	return []api.Inst{{Id: 1, Mult: 10, Price: 5, Next: 7}, {Id: 2, Mult: 1, Price: 9, Next: 8}, {Id: 3, Mult: 1 << 16, Price: 0, Next: 1<<31 - 1}, {Id: 4, Mult: 1 << 16, Price: 1<<31 - 1, Next: 0}}
}

func TestP20_1(t *testing.T) {
	for _, c := range []struct {
		legs []api.Leg
		want int64
		e    api.Errno
	}{
		{nil, 0, api.OK}, {legs(1, 3), 60, api.OK}, {legs(1, -3, 2, 4), -64, api.OK}, {legs(2, least), 0, api.ErrRange}, {legs(2, most), -most, api.OK},
		{legs(3, most), 0, api.ErrRange}, {legs(3, most, 4, most), 0, api.OK}, {legs(1, 1, 3, most, 4, most), 20, api.OK},
		{legs(5, 1), 0, api.ErrNone}, {legs(3, most, 5, 1), 0, api.ErrNone}, {legs(1, 0), 0, api.ErrForm}, {legs(5, 1, 1, 1), 0, api.ErrForm},
	} {
		if n, e := mark.Gain(insts(), c.legs); n != c.want || e != c.e {
			t.Error("Gain", c.legs, n, e)
		}
	}
	for _, c := range []struct {
		l    []api.Pos
		want []api.Flow
		e    api.Errno
	}{
		{nil, nil, api.OK},
		{[]api.Pos{pos(u(1, 1), 1, 3), pos(u(1, 2), 1, -3)}, []api.Flow{f(1, 1, 60), f(1, 2, -60)}, api.OK},
		{[]api.Pos{pos(u(1, 1), 1, 1, 2, 20), pos(u(1, 2), 2, -3)}, []api.Flow{f(1, 2, 3)}, api.OK},
		{[]api.Pos{pos(u(1, 1), 3, most), pos(u(1, 2), 5, 1)}, nil, api.ErrRange},
		{[]api.Pos{pos(u(1, 1), 5, 1), pos(u(1, 2), 3, most)}, nil, api.ErrNone},
		{[]api.Pos{pos(u(1, 3), 5, 1), pos(u(1, 2), 3, most)}, nil, api.ErrForm},
		{[]api.Pos{pos(u(1, 3))}, nil, api.ErrForm},
	} {
		if l, e := mark.Flows(insts(), c.l); !slices.Equal(l, c.want) || e != c.e {
			t.Error("Flows", c.l, l, e)
		}
	}
}

func TestP20_2(t *testing.T) {
	l := []api.Pos{pos(u(1, 1), 1, 3), pos(u(1, 2), 1, -3)}
	for _, c := range []struct {
		l    []api.Pos
		p    []api.Flow
		want []api.Flow
		e    api.Errno
	}{
		{l, nil, []api.Flow{f(1, 1, 60), f(1, 2, -60)}, api.OK},
		{l, []api.Flow{f(0, 0, 1), f(1, 2, 60)}, []api.Flow{f(0, 0, 1), f(1, 1, 60)}, api.OK},
		{nil, []api.Flow{f(1, 1, 5)}, []api.Flow{f(1, 1, 5)}, api.OK},
		{l, []api.Flow{f(1, 1, most)}, nil, api.ErrRange},
		{[]api.Pos{pos(u(1, 1))}, []api.Flow{f(1, 1, 0)}, nil, api.ErrForm},
		{[]api.Pos{pos(u(1, 1), 5, 1)}, []api.Flow{f(1, 1, 0)}, nil, api.ErrForm},
		{[]api.Pos{pos(u(1, 1), 5, 1)}, nil, nil, api.ErrNone},
		{[]api.Pos{pos(u(1, 1))}, nil, nil, api.ErrForm},
	} {
		if p, e := mark.Settle(insts(), c.l, c.p); !slices.Equal(p, c.want) || e != c.e {
			t.Error("Settle", c.l, c.p, p, e)
		}
	}
}

func TestP20_3(t *testing.T) {
	l := []api.Pos{pos(u(1, 1), 1, 3, 2, 7), pos(u(1, 2), 1, -9, 3, 5), pos(u(4, 2), 1, 6, 2, -7, 3, -5)}
	flows, e := mark.Flows(insts(), l)
	if e != api.OK || purse.Total(flows) != wide.Of(0) {
		t.Error("Flows", flows, e)
	}
	p := []api.Flow{f(1, 2, 77), f(5, 5, -4)}
	if q, e := mark.Settle(insts(), l, p); e != api.OK || purse.Total(q) != wide.Of(73) || purse.Get(q, u(5, 5)) != -4 {
		t.Error("Settle", q, e)
	}
}
