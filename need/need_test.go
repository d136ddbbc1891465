package need_test

import (
	"slices"
	"testing"

	"novation/api"
	"novation/need"
)

const most = 1<<63 - 1

func u(account, client int) api.Unit { return api.Unit{Account: account, Client: client} }

func pos(unit api.Unit, inst int, qty int64) api.Pos {
	return api.Pos{Unit: unit, Legs: []api.Leg{{Inst: inst, Qty: qty}}}
}

var insts = []api.Inst{{Id: 1, Mult: 10, Moves: []int64{2, -3}}, {Id: 2, Mult: 1, Moves: []int64{1}}}

func account(kind int, clients ...int) api.Account {
	return api.Account{Id: 3, Member: 1, Kind: kind, Clients: clients}
}

func TestP25_1(t *testing.T) {
	for _, c := range []struct {
		a     api.Account
		units []api.Unit
		parts [][]api.Unit
	}{
		{account(api.House), []api.Unit{u(3, 0)}, [][]api.Unit{{u(3, 0)}}},
		{account(api.Net), []api.Unit{u(3, 0)}, [][]api.Unit{nil}},
		{account(api.Net, 2, 5), []api.Unit{u(3, 0)}, [][]api.Unit{{u(3, 2), u(3, 5)}}},
		{account(api.Gross), nil, nil},
		{account(api.Gross, 2, 5), []api.Unit{u(3, 2), u(3, 5)}, [][]api.Unit{{u(3, 2)}, {u(3, 5)}}},
		{account(api.Seg, 7), []api.Unit{u(3, 7)}, [][]api.Unit{{u(3, 7)}}},
	} {
		if !slices.Equal(need.Units(c.a), c.units) {
			t.Error("Units", c.a, need.Units(c.a))
		}
		for i := range 20 {
			m := u(3, i)
			var parts []api.Unit
			if at := slices.Index(c.units, m); at >= 0 {
				parts = c.parts[at]
			}
			if !slices.Equal(need.Parts(c.a, m), parts) || len(need.Parts(c.a, u(4, i))) > 0 {
				t.Error("Parts", c.a, m, need.Parts(c.a, m))
			}
			want, is := api.Unit{}, false
			for at, l := range c.parts {
				if slices.Contains(l, m) {
					want, is = c.units[at], true
				}
			}
			if x, ok := need.Unit(c.a, m); x != want || ok != is {
				t.Error("Unit", c.a, m, x, ok)
			}
		}
		if x, ok := need.Unit(c.a, u(4, 2)); ok || x != u(0, 0) {
			t.Error("another account's", x, ok)
		}
	}
}

func TestP25_2(t *testing.T) {
	l := []api.Pos{pos(u(3, 0), 1, -1), pos(u(3, 2), 1, 4), pos(u(3, 5), 1, -4), pos(u(3, 6), 8, 1), pos(u(4, 1), 1, most), pos(u(4, 2), 1, most), pos(u(4, 3), 2, -most), pos(u(4, 4), 2, -most)}
	gross := api.Account{Id: 4, Member: 1, Kind: api.Gross, Clients: []int{1, 3, 4}}
	net := api.Account{Id: 4, Member: 1, Kind: api.Net, Clients: []int{1, 2}}
	for _, c := range []struct {
		l    []api.Pos
		a    api.Account
		unit api.Unit
		want int64
		e    api.Errno
	}{
		{l, account(api.Net, 2, 5), u(3, 0), 0, api.OK}, {l, account(api.Gross, 2, 5), u(3, 2), 120, api.OK}, {l, account(api.Gross, 2, 5), u(3, 5), 80, api.OK},
		{l, account(api.House), u(3, 0), 20, api.OK}, {l, account(api.Net, 2, 5), u(3, 2), 0, api.ErrNone}, {l, account(api.Gross, 2, 5), u(3, 6), 0, api.ErrNone},
		{l, account(api.Gross, 6), u(3, 6), 0, api.ErrNone}, {l, net, u(4, 0), 0, api.ErrRange}, {l, gross, u(4, 1), 0, api.ErrRange}, {l, gross, u(4, 3), most, api.OK},
		{[]api.Pos{{}}, account(api.House), u(9, 9), 0, api.ErrForm},
	} {
		if n, e := need.Of(insts, c.l, c.a, c.unit); n != c.want || e != c.e {
			t.Error("Of", c.a, c.unit, n, e)
		}
	}
	for _, c := range []struct {
		l    []api.Pos
		a    api.Account
		want int64
		e    api.Errno
	}{
		{l, account(api.Net, 2, 5), 0, api.OK}, {l, account(api.Gross, 2, 5), 200, api.OK}, {l, account(api.House), 20, api.OK}, {l, account(api.Gross), 0, api.OK},
		{l, gross, 0, api.ErrRange}, {l, api.Account{Id: 4, Kind: api.Gross, Clients: []int{3, 4}}, 0, api.ErrRange}, {l, account(api.Gross, 2, 6), 0, api.ErrNone}, {[]api.Pos{{}}, account(api.House), 0, api.ErrForm},
	} {
		if n, e := need.All(insts, c.l, c.a); n != c.want || e != c.e {
			t.Error("All", c.a, n, e)
		}
	}
}

func TestP25_3(t *testing.T) {
	for x := range 1000 {
		var l []api.Pos
		for i, q := range []int64{int64(x%10) - 5, int64(x/10%10) - 4, int64(x/100) - 3} {
			if q != 0 {
				l = append(l, pos(u(3, i+1), 1+i%2, q))
			}
		}
		net, e := need.All(insts, l, account(api.Net, 1, 2, 3))
		gross, f := need.All(insts, l, account(api.Gross, 1, 2, 3))
		if e != api.OK || f != api.OK || net > gross {
			t.Error(l, net, gross)
		}
	}
}
