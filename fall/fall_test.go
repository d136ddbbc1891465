package fall_test

import (
	"fmt"
	"slices"
	"testing"

	"novation/api"
	"novation/cover"
	"novation/dup"
	"novation/fall"
	"novation/hold"
	"novation/purse"
	"novation/units"
)

// same tells whether two things are alike: none and nothing are one.
func same(a, b any) bool { return fmt.Sprintf("%d", a) == fmt.Sprintf("%d", b) }

const least, most = -1 << 63, 1<<63 - 1

func u(account, client int) api.Unit { return api.Unit{Account: account, Client: client} }

func f(account, client int, amount int64) api.Flow {
	return api.Flow{Unit: u(account, client), Amount: amount}
}

func lot(asset, tag int, qty int64) api.Lot { return api.Lot{Asset: asset, Tag: tag, Qty: qty} }

func has(unit api.Unit, l ...api.Lot) api.Hold { return api.Hold{Unit: unit, Lots: l} }

func debit(by, to api.Unit, amount int64) api.Debit {
	return api.Debit{By: by, For: to, Amount: amount}
}

func like(a, b api.State) bool { return same(a, b) }

func refused(t *testing.T, name string, s api.State, l []api.Debit, e, want api.Errno) {
	t.Helper()
	if e != want || len(l) > 0 || e != api.OK && !like(s, api.State{}) {
		t.Error(name, l, e, want)
	}
}

var assets = []api.Asset{{Id: 1, Price: 3, Haircut: 5000}, {Id: 2, Price: 7}, {Id: 3}, {Id: 4, Price: 1}}

// with answers a state of cash and collateral.
func with(p []api.Flow, h ...api.Hold) api.State {
	return api.State{Assets: assets, Purse: p, Holds: h}
}

func TestP31_1(t *testing.T) {
	if fall.Treasury() != u(0, 1) || fall.Fund() != u(0, 0) {
		t.Error("Treasury, Fund")
	}
	s := with([]api.Flow{f(1, 1, -5), f(1, 2, 5), f(1, 3, least), f(1, 4, most), f(1, 5, -12)}, has(u(1, 1), lot(1, 0, 4)), has(u(1, 4), lot(3, 0, 4), lot(4, 1, 1)), has(u(1, 5), lot(1, 0, 4)), has(u(1, 6), lot(4, 0, most), lot(4, 1, 1)))
	for client, want := range []struct {
		owes, room int64
		e, f       api.Errno
	}{{0, 0, api.OK, api.OK}, {5, 7, api.OK, api.OK}, {0, 5, api.OK, api.OK}, {0, 0, api.ErrRange, api.OK}, {0, 0, api.OK, api.ErrRange}, {12, 0, api.OK, api.OK}, {0, 0, api.OK, api.ErrRange}} {
		owes, e := fall.Owes(s, u(1, client))
		room, f := fall.Room(s, u(1, client))
		if owes != want.owes || e != want.e || room != want.room || f != want.f {
			t.Error(client, owes, e, room, f)
		}
	}
	s.Assets = nil
	if n, e := fall.Room(s, u(1, 1)); n != 0 || e != api.ErrNone {
		t.Error("Room", n, e)
	}
}

func TestP31_2(t *testing.T) {
	for i, c := range []struct {
		before api.State
		cash   int64
		after  api.State
	}{
		{with([]api.Flow{f(1, 1, -10)}, has(u(1, 1), lot(1, 5, 4))), 0, with([]api.Flow{f(0, 1, -12), f(1, 1, 2)}, has(u(0, 1), lot(1, 0, 4)))},
		{with([]api.Flow{f(1, 1, -10)}, has(u(1, 1), lot(1, 0, 2), lot(1, 3, 9), lot(2, 1, 1))), -3, with([]api.Flow{f(0, 1, -9), f(1, 1, -1)}, has(u(0, 1), lot(1, 0, 3)), has(u(1, 1), lot(1, 3, 8), lot(2, 1, 1)))},
		{with([]api.Flow{f(1, 1, -10)}, has(u(1, 1), lot(3, 0, 2), lot(4, 3, 9))), 5, with([]api.Flow{f(0, 1, -9), f(1, 1, -1)}, has(u(0, 1), lot(4, 0, 9)), has(u(1, 1), lot(3, 0, 2)))},
		{with([]api.Flow{f(1, 1, 9)}, has(u(1, 1), lot(1, 0, 2))), 9, with([]api.Flow{f(1, 1, 9)}, has(u(1, 1), lot(1, 0, 2)))},
		{with([]api.Flow{f(1, 1, 9)}, has(u(1, 1), lot(1, 0, 2))), 10, with([]api.Flow{f(0, 1, -3), f(1, 1, 12)}, has(u(0, 1), lot(1, 0, 1)), has(u(1, 1), lot(1, 0, 1)))},
		{with([]api.Flow{f(1, 1, least)}), most, with([]api.Flow{f(1, 1, least)})},
	} {
		start := dup.State(c.before)
		if s, e := fall.Sell(c.before, u(1, 1), c.cash); e != api.OK || !like(s, c.after) {
			t.Error("Sell", i, s.Purse, s.Holds, e)
		}
		if !like(start, c.before) {
			t.Error("changed", i)
		}
	}
	few := with([]api.Flow{f(1, 1, -10)}, has(u(1, 1), lot(1, 0, 2), lot(2, 0, 2)))
	few.Assets = assets[:1]
	treasury := with(nil, has(u(0, 1), lot(4, 0, most)), has(u(1, 1), lot(4, 0, 2)))
	for i, c := range []struct {
		s    api.State
		unit api.Unit
		cash int64
		e    api.Errno
	}{
		{with([]api.Flow{f(1, 1, 0)}), u(0, 1), 0, api.ErrForm}, {with(nil, has(u(1, 1))), u(0, 1), 0, api.ErrForm}, {with(nil), u(0, 1), 0, api.ErrArg},
		{with([]api.Flow{f(1, 1, -5)}, has(u(1, 1), lot(3, 0, 2))), u(1, 1), most, api.ErrRange}, {few, u(1, 1), -4, api.OK}, {few, u(1, 1), -3, api.ErrNone},
		{treasury, u(1, 1), 1, api.ErrRange}, {with([]api.Flow{f(0, 1, least)}, has(u(1, 1), lot(4, 0, 2))), u(1, 1), 1, api.ErrRange},
		{with(nil, has(u(1, 1), lot(1, 0, most))), u(1, 1), most, api.ErrRange},
	} {
		s, e := fall.Sell(c.s, c.unit, c.cash)
		if e != c.e || e != api.OK && !like(s, api.State{}) {
			t.Error("Sell", i, e)
		}
	}
}

func TestP31_3_Pay(t *testing.T) {
	a, b := u(1, 1), u(2, 0)
	s := with([]api.Flow{f(1, 1, -10), f(2, 0, 2)}, has(b, lot(1, 0, 2), lot(2, 0, 1)))
	x, l, e := fall.Pay(s, b, a)
	if want := with([]api.Flow{f(0, 1, -13), f(2, 0, 5)}, has(u(0, 1), lot(1, 0, 2), lot(2, 0, 1))); e != api.OK || !like(x, want) || !slices.Equal(l, []api.Debit{debit(b, a, 10)}) {
		t.Error("Pay", x.Purse, x.Holds, l, e)
	}
	s.Purse[0].Amount = -100
	x, l, e = fall.Pay(s, b, a)
	if want := with([]api.Flow{f(0, 1, -13), f(1, 1, -85)}, has(u(0, 1), lot(1, 0, 2), lot(2, 0, 1))); e != api.OK || !like(x, want) || !slices.Equal(l, []api.Debit{debit(b, a, 15)}) {
		t.Error("Pay", x.Purse, x.Holds, l, e)
	}
	s.Purse[1].Amount = -4
	x, l, e = fall.Pay(s, b, a)
	if e != api.OK || purse.Get(x.Purse, b) != 0 || purse.Get(x.Purse, a) != -91 || !slices.Equal(l, []api.Debit{debit(b, a, 9)}) {
		t.Error("one who owes pays too", x.Purse, l, e)
	}
	for _, c := range [][2]api.Unit{{a, a}, {b, b}, {b, u(9, 9)}, {u(9, 9), a}, {a, b}} {
		y := s
		y.Purse = []api.Flow{f(1, 1, -10), f(2, 0, 2)}
		if x, l, e := fall.Pay(y, c[0], c[1]); e != api.OK || len(l) > 0 || !like(x, y) {
			t.Error("as it is", c, x.Purse, l, e)
		}
	}
	bad := with([]api.Flow{f(1, 1, least), f(2, 0, most)}, has(b, lot(4, 0, 1)))
	x, l, e = fall.Pay(bad, b, a)
	refused(t, "Owes", x, l, e, api.ErrRange)
	bad.Purse[0].Amount = -1
	x, l, e = fall.Pay(bad, b, a)
	refused(t, "Room", x, l, e, api.ErrRange)
	x, l, e = fall.Pay(with([]api.Flow{f(0, 1, 5), f(1, 1, -5)}), u(0, 1), a)
	refused(t, "Treasury", x, l, e, api.ErrArg)
	x, l, e = fall.Pay(with([]api.Flow{f(1, 1, -5), f(1, 1, 0), f(2, 0, 3)}), b, a)
	refused(t, "no purse", x, l, e, api.ErrForm)
	x, l, e = fall.Pay(with(nil, has(b, lot(1, 0, 0))), b, b)
	refused(t, "Room ahead of all else", x, l, e, api.ErrForm)
}

func TestP31_3_Own(t *testing.T) {
	a := u(1, 1)
	x, l, e := fall.Own(with([]api.Flow{f(1, 1, -10)}, has(a, lot(1, 0, 4))), a)
	if e != api.OK || !slices.Equal(l, []api.Debit{debit(a, a, 10)}) || purse.Get(x.Purse, a) != 2 || len(hold.Lots(x.Holds, a)) > 0 {
		t.Error("Own", x.Purse, l, e)
	}
	x, l, e = fall.Own(with([]api.Flow{f(1, 1, -10)}, has(a, lot(1, 0, 2))), a)
	if e != api.OK || !slices.Equal(l, []api.Debit{debit(a, a, 6)}) || purse.Get(x.Purse, a) != -4 {
		t.Error("Own", x.Purse, l, e)
	}
	x, l, e = fall.Own(with([]api.Flow{f(1, 1, -9)}, has(a, lot(1, 0, 4))), a)
	if e != api.OK || !slices.Equal(l, []api.Debit{debit(a, a, 9)}) || purse.Get(x.Purse, a) != 0 || hold.Lots(x.Holds, a)[0].Qty != 1 {
		t.Error("no more than it owes", x.Purse, l, e)
	}
	for i, s := range []api.State{with([]api.Flow{f(1, 1, 10)}, has(a, lot(1, 0, 2))), with([]api.Flow{f(1, 1, -10)}), with([]api.Flow{f(1, 1, -10)}, has(a, lot(3, 0, 2)))} {
		if x, l, e := fall.Own(s, a); e != api.OK || len(l) > 0 || !like(x, s) {
			t.Error("nothing", i, x, l, e)
		}
	}
	x, l, e = fall.Own(with([]api.Flow{f(1, 1, least)}, has(u(9, 9))), a)
	refused(t, "Owes", x, l, e, api.ErrRange)
	x, l, e = fall.Own(with(nil, has(u(9, 9))), a)
	refused(t, "Sell", x, l, e, api.ErrForm)
	x, l, e = fall.Own(with(nil), fall.Treasury())
	refused(t, "Sell", x, l, e, api.ErrArg)
}

func TestP31_4_Shared(t *testing.T) {
	l := []api.Unit{u(1, 1), u(1, 2), u(1, 3), u(1, 4), u(1, 5)}
	s := with([]api.Flow{f(1, 1, -6), f(1, 2, 5), f(1, 3, -3), f(1, 4, 10)}, has(u(1, 1), lot(1, 0, 9)), has(u(1, 5), lot(2, 0, 3)))
	x, d, e := fall.Shared(s, l)
	// 9 by rooms of 5, 10 and 21: 1, 3 and 5; for those who owe 6 and 3
	want := []api.Debit{debit(l[1], l[0], 1), debit(l[3], l[0], 3), debit(l[4], l[0], 2), debit(l[4], l[2], 3)}
	if e != api.OK || !slices.Equal(d, want) || !slices.Equal(x.Purse, []api.Flow{f(0, 1, -7), f(1, 2, 4), f(1, 4, 7), f(1, 5, 2)}) || len(hold.Lots(x.Holds, l[0])) != 1 {
		t.Error("Shared", x.Purse, d, e)
	}
	s.Purse = []api.Flow{f(1, 1, -30), f(1, 2, 5), f(1, 3, -40)}
	x, d, e = fall.Shared(s, l)
	// 26 is there: of the 70 that are owed 11 and 15
	want = []api.Debit{debit(l[1], l[0], 5), debit(l[4], l[0], 6), debit(l[4], l[2], 15)}
	if e != api.OK || !slices.Equal(d, want) || purse.Get(x.Purse, l[0]) != -19 || purse.Get(x.Purse, l[2]) != -25 {
		t.Error("Shared", x.Purse, d, e)
	}
	for _, l := range [][]api.Unit{nil, l[:1], l[1:2], l[3:]} {
		if x, d, e := fall.Shared(s, l); e != api.OK || len(d) > 0 || !like(x, s) {
			t.Error("nothing", l, d, e)
		}
	}
}

func TestP31_4_Errors(t *testing.T) {
	l := []api.Unit{u(1, 1), u(1, 2), u(1, 3)}
	for name, c := range map[string]struct {
		s api.State
		e api.Errno
	}{
		"Owes":          {with([]api.Flow{f(1, 1, -1), f(1, 2, least)}, has(l[0], lot(1, 0, 0))), api.ErrRange},
		"its sum":       {with([]api.Flow{f(1, 1, -most), f(1, 2, -1)}, has(l[0], lot(1, 0, 0))), api.ErrRange},
		"Room of owers": {with([]api.Flow{f(1, 1, -1), f(1, 2, 1)}, has(l[0], lot(1, 0, most))), api.ErrRange},
		"Room":          {with([]api.Flow{f(1, 1, -1), f(1, 2, most)}, has(l[1], lot(1, 0, 1), lot(1, 0, 1))), api.ErrForm},
		"rooms' sum":    {with([]api.Flow{f(1, 2, most), f(1, 3, 1)}), api.ErrRange},
		"not owers'":    {with([]api.Flow{f(1, 1, -9), f(1, 2, most)}, has(l[0], lot(1, 0, 9))), api.OK},
	} {
		s, d, e := fall.Shared(c.s, l)
		if c.e == api.OK {
			d = nil
		}
		refused(t, name, s, d, e, c.e)
	}
}

// member answers a state of member 1, whose clients have lost, and of somebody else.
func member() api.State {
	s := with([]api.Flow{f(0, 0, 9), f(1, 1, -20), f(1, 2, 4), f(1, 3, -5), f(2, 0, 3), f(3, 1, -7), f(3, 2, 50), f(4, 0, 8), f(5, 1, -33)},
		has(u(0, 0), lot(1, 2, 1)), has(u(1, 1), lot(1, 0, 2)), has(u(1, 2), lot(2, 9, 1)), has(u(2, 0), lot(4, 1, 2)), has(u(5, 1), lot(1, 0, 5)))
	s.Accounts = []api.Account{
		{Id: 1, Member: 1, Kind: api.Net, Clients: []int{1, 2, 3}}, {Id: 2, Member: 1, Kind: api.House}, {Id: 3, Member: 1, Kind: api.Gross, Clients: []int{1, 2}},
		{Id: 4, Member: 1, Kind: api.House}, {Id: 5, Member: 2, Kind: api.Seg, Clients: []int{1}},
	}
	return s
}

func TestP31_4_All(t *testing.T) {
	s := member()
	x, d, e := fall.All(s, 1)
	want := []api.Debit{
		debit(u(1, 1), u(1, 1), 6),
		debit(u(1, 2), u(1, 1), 8), debit(u(1, 2), u(1, 3), 3),
		debit(u(2, 0), u(1, 1), 5), debit(u(4, 0), u(1, 1), 1), debit(u(4, 0), u(1, 3), 2), debit(u(4, 0), u(3, 1), 5),
		debit(fall.Fund(), u(3, 1), 2),
	}
	if e != api.OK || !slices.Equal(d, want) || !slices.Equal(x.Purse, []api.Flow{f(0, 0, 7), f(0, 1, -15), f(3, 2, 50), f(5, 1, -33)}) {
		t.Error("All", x.Purse, d, e)
	}
	if !like(s, member()) {
		t.Error("changed")
	}
	if x, d, e := fall.All(s, 7); e != api.OK || len(d) > 0 || !like(x, s) {
		t.Error("nobody's", d, e)
	}
	s.Purse[7].Amount = least
	x, d, e = fall.All(s, 1)
	refused(t, "All", x, d, e, api.ErrRange)
	for name, p := range map[string][]api.Flow{"Shared": {f(1, 1, most), f(1, 2, 1)}, "by the house": {f(2, 0, most)}, "by the fund": {f(0, 0, most)}} {
		s = member()
		s.Purse = p
		x, d, e = fall.All(s, 1)
		refused(t, name, x, d, e, api.ErrRange)
	}
	s = member()
	s.Holds = append(s.Holds, has(u(6, 0)))
	x, d, e = fall.All(s, 1)
	refused(t, "All", x, d, e, api.ErrForm)
}

func TestP31_5(t *testing.T) {
	seed := uint64(7)
	next := func(n uint64) int64 {
		seed = seed*6364136223846793005 + 1442695040888963407
		return int64(seed >> 33 % n)
	}
	for range 400 {
		s := member()
		s.Purse, s.Holds = nil, nil
		for _, unit := range append(units.All(s.Accounts), fall.Fund()) {
			cash := next(60) - 30
			if unit == fall.Fund() { // which nobody pays for
				cash += 30
			}
			s.Purse, _ = purse.Pay(s.Purse, api.Flow{Unit: unit, Amount: cash})
			for range next(3) {
				s.Holds, _ = hold.Put(s.Holds, unit, lot(int(1+next(4)), int(next(3)), 1+next(9)))
			}
		}
		fair(t, s)
	}
}

// fair tells whether a waterfall loses nothing, and takes from nobody who may not pay.
func fair(t *testing.T, s api.State) {
	x, d, e := fall.All(s, 1)
	if e != api.OK || purse.Total(x.Purse) != purse.Total(s.Purse) {
		t.Fatal("All", e)
	}
	for asset := range 5 {
		if hold.Total(x.Holds, asset) != hold.Total(s.Holds, asset) {
			t.Error("asset", asset)
		}
	}
	paid, by := map[api.Unit]int64{}, map[api.Unit]int64{}
	for _, d := range d {
		net := d.By.Account == 1 && d.For.Account == 1
		house := d.By == u(2, 0) || d.By == u(4, 0)
		if d.Amount <= 0 || d.By != d.For && !net && !house && d.By != fall.Fund() || d.For.Account > 4 {
			t.Error("who may not", d)
		}
		paid[d.For] += d.Amount
		by[d.By] += d.Amount
	}
	for _, unit := range append(units.All(s.Accounts), fall.Fund()) {
		before, _ := fall.Owes(s, unit)
		after, _ := fall.Owes(x, unit)
		if before-after != paid[unit] {
			t.Error("owes less", unit, before, after, paid[unit])
		}
		had, _ := cover.Worth(s.Assets, hold.Lots(s.Holds, unit))
		left, _ := cover.Worth(x.Assets, hold.Lots(x.Holds, unit))
		if had+max(0, purse.Get(s.Purse, unit))-by[unit] != left+max(0, purse.Get(x.Purse, unit)) {
			t.Error("pays more than its debits", unit)
		}
	}
}
