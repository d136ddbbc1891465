package cover_test

import (
	"slices"
	"testing"

	"novation/api"
	"novation/cover"
	"novation/hold"
	"novation/purse"
)

const least, most = -1 << 63, 1<<63 - 1

func u(account, client int) api.Unit { return api.Unit{Account: account, Client: client} }

func lot(asset, tag int, qty int64) api.Lot { return api.Lot{Asset: asset, Tag: tag, Qty: qty} }

func pos(unit api.Unit, inst int, qty int64) api.Pos {
	return api.Pos{Unit: unit, Legs: []api.Leg{{Inst: inst, Qty: qty}}}
}

var assets = []api.Asset{{Id: 1, Price: 3, Haircut: 1000}, {Id: 2, Price: 1}, {Id: 4, Price: 0}}

func TestP27_1(t *testing.T) {
	for _, c := range []struct {
		l     []api.Lot
		cash  int64
		value int64
		e     api.Errno
		worth int64
		f     api.Errno
	}{
		{nil, 5, 5, api.OK, 0, api.OK},
		{[]api.Lot{lot(1, 0, 10)}, 50, 77, api.OK, 30, api.OK},
		{[]api.Lot{lot(1, 0, 1), lot(1, 1, 1), lot(2, 0, 7), lot(4, 0, most)}, -3, 8, api.OK, 13, api.OK},
		{[]api.Lot{lot(2, 0, most)}, 1, 0, api.ErrRange, most, api.OK},
		{[]api.Lot{lot(2, 0, most)}, -1, most - 1, api.OK, most, api.OK},
		{[]api.Lot{lot(2, 0, most), lot(2, 1, 1)}, -1, most, api.OK, 0, api.ErrRange},
		{[]api.Lot{lot(2, 0, most), lot(2, 1, most)}, least, most - 1, api.OK, 0, api.ErrRange},
		{[]api.Lot{lot(1, 0, most)}, 0, 0, api.ErrRange, 0, api.ErrRange},
		{[]api.Lot{lot(1, 0, most), lot(3, 0, 1)}, 0, 0, api.ErrRange, 0, api.ErrRange},
		{[]api.Lot{lot(1, 0, 1), lot(3, 0, 1)}, 0, 0, api.ErrNone, 0, api.ErrNone},
		{[]api.Lot{lot(3, 0, 0)}, 0, 0, api.ErrForm, 0, api.ErrForm},
	} {
		if n, e := cover.Value(assets, c.l, c.cash); n != c.value || e != c.e {
			t.Error("Value", c.l, c.cash, n, e)
		}
		if n, e := cover.Worth(assets, c.l); n != c.worth || e != c.f {
			t.Error("Worth", c.l, n, e)
		}
	}
	if n, e := cover.Value([]api.Asset{{Id: 1, Price: -1}}, []api.Lot{lot(1, 0, 1)}, 0); n != 0 || e != api.ErrArg {
		t.Error("asset.Count's error", n, e)
	}
}

func side() cover.Side {
	return cover.Side{
		Assets: assets,
		Insts:  []api.Inst{{Id: 1, Mult: 10, Moves: []int64{2, -3}}},
		Book:   []api.Pos{pos(u(1, 0), 1, 4), pos(u(2, 1), 1, 4), pos(u(2, 2), 1, -4), pos(u(3, 5), 2, 1)},
		Purse:  []api.Flow{{Unit: u(1, 0), Amount: 50}, {Unit: u(2, 1), Amount: -90}, {Unit: u(2, 2), Amount: 100}, {Unit: u(4, 1), Amount: most}},
		Holds:  []api.Hold{{Unit: u(1, 0), Lots: []api.Lot{lot(1, 0, 10)}}, {Unit: u(2, 1), Lots: []api.Lot{lot(2, 0, 3)}}, {Unit: u(4, 1), Lots: []api.Lot{lot(2, 0, 3)}}, {Unit: u(4, 2), Lots: []api.Lot{lot(3, 0, 3)}}},
	}
}

func TestP27_2(t *testing.T) {
	house := api.Account{Id: 1, Member: 1, Kind: api.House}
	net := api.Account{Id: 2, Member: 1, Kind: api.Net, Clients: []int{1, 2}}
	gross := api.Account{Id: 2, Member: 1, Kind: api.Gross, Clients: []int{1, 2}}
	third := api.Account{Id: 3, Member: 1, Kind: api.Gross, Clients: []int{5}}
	fourth := api.Account{Id: 4, Member: 1, Kind: api.Gross, Clients: []int{1, 2}}
	for _, c := range []struct {
		a    api.Account
		unit api.Unit
		want int64
		e    api.Errno
	}{
		{house, u(1, 0), -43, api.OK}, {net, u(2, 0), 13, api.OK}, {gross, u(2, 1), -207, api.OK}, {gross, u(2, 2), 20, api.OK}, {net, u(2, 1), 0, api.ErrNone},
		{third, u(3, 5), 0, api.ErrNone}, {fourth, u(4, 1), 0, api.ErrRange}, {fourth, u(4, 2), 0, api.ErrNone},
	} {
		if n, e := cover.Excess(side(), c.a, c.unit); n != c.want || e != c.e {
			t.Error("Excess", c.a, c.unit, n, e)
		}
	}
	for i, spoil := range []func(s *cover.Side){
		func(s *cover.Side) { s.Book[0].Legs = nil }, func(s *cover.Side) { s.Purse[0].Amount = 0 }, func(s *cover.Side) { s.Holds[0].Lots = nil },
	} {
		s := side()
		spoil(&s)
		if n, e := cover.Excess(s, net, u(9, 9)); n != 0 || e != api.ErrForm {
			t.Error("Excess", i, n, e)
		}
		if l, e := cover.Calls(s, []api.Account{house}); len(l) > 0 || e != api.ErrForm {
			t.Error("Calls", i, l, e)
		}
	}
	for _, c := range []struct {
		l    []api.Account
		want []api.Flow
		e    api.Errno
	}{
		{nil, nil, api.OK}, {[]api.Account{net}, nil, api.OK}, {[]api.Account{{Id: 9, Member: 1, Kind: api.House}}, nil, api.OK},
		{[]api.Account{gross, house}, []api.Flow{{Unit: u(2, 1), Amount: -207}, {Unit: u(1, 0), Amount: -43}}, api.OK},
		{[]api.Account{house, fourth, third}, nil, api.ErrRange}, {[]api.Account{house, third, fourth}, nil, api.ErrNone},
	} {
		if l, e := cover.Calls(side(), c.l); !slices.Equal(l, c.want) || e != c.e {
			t.Error("Calls", c.l, l, e)
		}
	}
	s := side()
	s.Book = append(s.Book, pos(u(4, 1), 1, 1)) // what must be had does not make a Value fit that leaves 64 bits
	if n, e := cover.Excess(s, fourth, u(4, 1)); n != 0 || e != api.ErrRange {
		t.Error("a Value of its own", n, e)
	}
}

func TestP27_3(t *testing.T) {
	net := api.Account{Id: 2, Member: 1, Kind: api.Net, Clients: []int{1, 2}}
	s := side()
	before, _ := cover.Excess(s, net, u(2, 0))
	for qty := int64(1); qty < 9; qty++ {
		for asset := 1; asset < 3; asset++ {
			s := side()
			s.Holds, _ = hold.Put(s.Holds, u(2, 2), lot(asset, 7, qty))
			if n, e := cover.Excess(s, net, u(2, 0)); e != api.OK || n < before {
				t.Error("a lot more", asset, qty, n, e)
			}
		}
		s := side()
		s.Purse, _ = purse.Pay(s.Purse, api.Flow{Unit: u(2, 1), Amount: qty})
		if n, e := cover.Excess(s, net, u(2, 0)); e != api.OK || n != before+qty {
			t.Error("cash more", qty, n, e)
		}
	}
}
