package purse_test

import (
	"slices"
	"testing"

	"novation/api"
	"novation/purse"
	"novation/wide"
)

const least, most = -1 << 63, 1<<63 - 1

func u(account, client int) api.Unit { return api.Unit{Account: account, Client: client} }

func f(account, client int, amount int64) api.Flow {
	return api.Flow{Unit: u(account, client), Amount: amount}
}

var none = [][]api.Flow{{f(1, 1, 0)}, {f(1, 2, 1), f(1, 1, 1)}, {f(1, 1, 1), f(1, 1, 2)}, {f(2, 1, 1), f(1, 2, 1)}}

func TestP17_1(t *testing.T) {
	l := []api.Flow{f(0, 0, -4), f(1, 1, least), f(1, 2, most), f(2, 0, 3)}
	if !purse.Is(nil) || !purse.Is(l) {
		t.Error("are purses")
	}
	for _, l := range none {
		if purse.Is(l) {
			t.Error("is none", l)
		}
		if m, e := purse.Pay(l, f(1, 1, most), f(1, 1, most)); len(m) > 0 || e != api.ErrForm {
			t.Error("Pay", m, e)
		}
		if m, e := purse.Move(l, u(1, 1), u(1, 1), least); len(m) > 0 || e != api.ErrForm {
			t.Error("Move", m, e)
		}
	}
	if purse.Get(l, u(1, 2)) != most || purse.Get(l, u(1, 3)) != 0 || purse.Get([]api.Flow{f(1, 1, 7), f(1, 1, 8)}, u(1, 1)) != 7 {
		t.Error("Get")
	}
	if purse.Total(l) != wide.Of(-2) || purse.Total(nil) != wide.Of(0) || wide.Text(purse.Total([]api.Flow{f(1, 1, most), f(1, 1, most)})) != "18446744073709551614" {
		t.Error("Total")
	}
}

func TestP17_2(t *testing.T) {
	l := []api.Flow{f(1, 1, 5), f(2, 2, -3)}
	for _, c := range []struct {
		flows []api.Flow
		want  []api.Flow
		e     api.Errno
	}{
		{nil, l, api.OK},
		{[]api.Flow{f(2, 2, 3), f(1, 9, 0)}, l[:1], api.OK},
		{[]api.Flow{f(3, 1, 1), f(0, 0, 2), f(1, 1, -6), f(3, 1, 1)}, []api.Flow{f(0, 0, 2), f(1, 1, -1), f(2, 2, -3), f(3, 1, 2)}, api.OK},
		{[]api.Flow{f(1, 1, most)}, nil, api.ErrRange},
		{[]api.Flow{f(1, 1, most), f(1, 1, -5)}, []api.Flow{f(1, 1, most), f(2, 2, -3)}, api.OK},
		{[]api.Flow{f(9, 9, least), f(9, 9, -1)}, nil, api.ErrRange},
	} {
		if m, e := purse.Pay(l, c.flows...); !slices.Equal(m, c.want) || e != c.e {
			t.Error("Pay", c.flows, m, e)
		}
	}
	for _, c := range []struct {
		from, to api.Unit
		amount   int64
		want     []api.Flow
		e        api.Errno
	}{
		{u(1, 1), u(3, 1), 5, []api.Flow{f(2, 2, -3), f(3, 1, 5)}, api.OK},
		{u(4, 1), u(3, 1), -5, []api.Flow{f(1, 1, 5), f(2, 2, -3), f(3, 1, -5), f(4, 1, 5)}, api.OK},
		{u(1, 1), u(1, 1), most, l, api.OK},
		{u(1, 1), u(1, 1), least, nil, api.ErrRange},
		{u(1, 1), u(3, 1), least, nil, api.ErrRange},
		{u(2, 2), u(3, 1), most - 1, nil, api.ErrRange},
		{u(2, 2), u(3, 1), most - 3, []api.Flow{f(1, 1, 5), f(2, 2, -most), f(3, 1, most-3)}, api.OK},
		{u(3, 1), u(1, 1), most - 4, nil, api.ErrRange},
		{u(3, 1), u(4, 1), 0, l, api.OK},
	} {
		if m, e := purse.Move(l, c.from, c.to, c.amount); !slices.Equal(m, c.want) || e != c.e {
			t.Error("Move", c, m, e)
		}
	}
	if m, e := purse.Move(nil, u(1, 0), u(2, 0), 5); !slices.Equal(m, []api.Flow{f(1, 0, -5), f(2, 0, 5)}) || e != api.OK {
		t.Error("Move of nothing", m, e)
	}
}

func TestP17_3(t *testing.T) {
	l := []api.Flow{f(1, 1, 5), f(2, 2, -3), f(3, 3, most)}
	flows := []api.Flow{f(3, 3, -7), f(3, 3, 6), f(1, 1, -5), f(8, 8, 2), f(2, 7, 1), f(3, 3, 1)}
	want, e := purse.Pay(l, flows...)
	for range flows {
		flows = append(flows[1:], flows[0])
		if m, x := purse.Pay(l, flows...); !slices.Equal(m, want) || e != x || !purse.Is(m) || purse.Get(m, u(2, 2)) != -3 {
			t.Error("Pay by order", m, x)
		}
	}
	for amount := int64(-9); amount < 9; amount++ {
		m, e := purse.Move(l, u(1, 1), u(2, 2), amount)
		if e != api.OK || purse.Total(m) != purse.Total(l) || purse.Get(m, u(3, 3)) != most || !purse.Is(m) {
			t.Error("Move", amount, m, e)
		}
	}
}
