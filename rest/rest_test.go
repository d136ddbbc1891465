package rest_test

import (
	"fmt"
	"testing"

	"novation/api"
	"novation/cover"
	"novation/fall"
	"novation/hold"
	"novation/purse"
	"novation/rest"
	"novation/units"
	"novation/wide"
)

// same tells whether two things are alike: none and nothing are one.
func same(a, b any) bool { return fmt.Sprintf("%d", a) == fmt.Sprintf("%d", b) }

const least, most = -1 << 63, 1<<63 - 1

func u(account, client int) api.Unit { return api.Unit{Account: account, Client: client} }

func f(account, client int, amount int64) api.Flow {
	return api.Flow{Unit: u(account, client), Amount: amount}
}

func lot(asset, tag int, qty int64) api.Lot { return api.Lot{Asset: asset, Tag: tag, Qty: qty} }

func has(unit api.Unit, l ...api.Lot) api.Hold { return api.Hold{Unit: unit, Lots: l} }

func back(unit api.Unit, cash int64, l ...api.Lot) api.Return {
	return api.Return{Unit: unit, Cash: cash, Lots: l}
}

func like(a, b api.State) bool { return same(a, b) }

func start() api.State {
	return api.State{
		Assets: []api.Asset{{Id: 1, Price: 3}, {Id: 2, Price: 7}},
		Accounts: []api.Account{
			{Id: 1, Member: 1, Kind: api.Net, Clients: []int{1, 2, 3, 4}}, {Id: 2, Member: 2, Kind: api.House}, {Id: 3, Member: 1, Kind: api.House},
		},
		Purse: []api.Flow{f(0, 0, 50), f(0, 1, -9), f(1, 1, 5), f(1, 2, -4), f(2, 0, 8), f(3, 0, most)},
		Holds: []api.Hold{has(u(0, 1), lot(1, 0, 3)), has(u(1, 1), lot(1, 3, 4), lot(2, 0, 1)), has(u(1, 3), lot(2, 5, 6)), has(u(2, 0), lot(1, 1, 1))},
	}
}

func TestP32_1(t *testing.T) {
	s := start()
	for _, want := range []api.Return{back(u(1, 1), 5, lot(1, 3, 4), lot(2, 0, 1)), back(u(1, 2), 0), back(u(1, 3), 0, lot(2, 5, 6)), back(u(1, 4), 0), back(u(3, 0), most)} {
		if r := rest.Of(s, want.Unit); !same(r, want) {
			t.Error("Of", r)
		}
	}
	x, l, e := rest.Give(s, 1)
	want := start()
	want.Purse = []api.Flow{f(0, 0, 50), f(0, 1, -9), f(1, 2, -4), f(2, 0, 8)}
	want.Holds = []api.Hold{want.Holds[0], want.Holds[3]}
	if e != api.OK || !like(x, want) || !same(l, []api.Return{back(u(1, 1), 5, lot(1, 3, 4), lot(2, 0, 1)), back(u(1, 3), 0, lot(2, 5, 6)), back(u(3, 0), most)}) {
		t.Error("Give", x, l, e)
	}
	l[0].Lots[0].Qty, x.Holds[0].Lots[0].Qty = 77, 77
	if !like(s, start()) {
		t.Error("changed", s)
	}
	if x, l, e := rest.Give(s, 7); e != api.OK || len(l) > 0 || !like(x, s) {
		t.Error("to nobody", l, e)
	}
	for i, spoil := range []func(s *api.State){func(s *api.State) { s.Purse[0].Amount = 0 }, func(s *api.State) { s.Holds[0].Lots = nil }} {
		s := start()
		spoil(&s)
		if x, l, e := rest.Give(s, 7); e != api.ErrForm || len(l) > 0 || !like(x, api.State{}) {
			t.Error("Give", i, l, e)
		}
	}
}

func TestP32_2(t *testing.T) {
	as := start().Assets
	for _, c := range []struct {
		r    api.Return
		want int64
		e    api.Errno
	}{
		{back(u(1, 1), 5, lot(1, 0, 4)), 17, api.OK}, {back(u(1, 1), 0), 0, api.OK}, {back(u(1, 1), least), least, api.OK}, {back(u(1, 1), most, lot(1, 0, 1)), 0, api.ErrRange},
		{back(u(1, 1), 0, lot(3, 0, 1)), 0, api.ErrNone}, {back(u(1, 1), 0, lot(3, 0, 0)), 0, api.ErrForm}, {back(u(1, 1), least, lot(1, 0, most)), 0, api.ErrRange},
	} {
		if n, e := rest.Worth(as, c.r); n != c.want || e != c.e {
			t.Error("Worth", c.r, n, e)
		}
	}
}

func TestP32_3(t *testing.T) {
	s := start()
	s.Purse = []api.Flow{f(0, 0, 50), f(1, 1, 5), f(1, 2, -14), f(1, 3, -2), f(2, 0, 8), f(3, 0, 1)}
	x, debits, e := fall.All(s, 1)
	y, l, g := rest.Give(x, 1)
	if e != api.OK || g != api.OK || len(debits) == 0 {
		t.Fatal(e, g, debits)
	}
	by, got := map[api.Unit]int64{}, map[api.Unit]int64{}
	for _, d := range debits {
		by[d.By] += d.Amount
	}
	cash, lots := purse.Total(y.Purse), [3]wide.Wide{}
	for _, r := range l {
		n, _ := rest.Worth(s.Assets, r)
		got[r.Unit] = n
		cash, _ = wide.Add(cash, wide.Of(r.Cash))
		for _, lot := range r.Lots {
			lots[lot.Asset], _ = wide.Add(lots[lot.Asset], wide.Of(lot.Qty))
		}
	}
	for _, unit := range units.Of(s.Accounts, 1) {
		had, _ := cover.Worth(s.Assets, hold.Lots(s.Holds, unit))
		if want := had + max(0, purse.Get(s.Purse, unit)) - by[unit]; got[unit] != want {
			t.Error("gets back", unit, got[unit], want)
		}
	}
	if cash != purse.Total(s.Purse) {
		t.Error("cash", wide.Text(cash))
	}
	for asset := 1; asset < 3; asset++ {
		if all, _ := wide.Add(lots[asset], hold.Total(y.Holds, asset)); all != hold.Total(s.Holds, asset) {
			t.Error("asset", asset)
		}
	}
}
