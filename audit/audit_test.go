package audit_test

import (
	"slices"
	"testing"

	"novation/api"
	"novation/audit"
	"novation/rules"
	"novation/wide"
)

func u(account, client int) api.Unit { return api.Unit{Account: account, Client: client} }

func ok(c api.Command, r api.Reply) api.Done { return api.Done{Command: c, Reply: r} }

func debit(by, to api.Unit, amount int64) api.Debit {
	return api.Debit{By: by, For: to, Amount: amount}
}

func lot(asset int, qty int64) api.Lot { return api.Lot{Asset: asset, Qty: qty} }

func deposit(asset int, qty int64) api.Command {
	return api.Command{Op: api.OpDeposit, Asset: asset, Qty: qty}
}

func withdraw(asset int, qty int64) api.Command {
	return api.Command{Op: api.OpWithdraw, Asset: asset, Qty: qty}
}

func TestP39_1(t *testing.T) {
	if l := []api.Done{ok(deposit(0, 5), api.Reply{}), ok(withdraw(0, 2), api.Reply{})}; audit.Sum(l, 0) != wide.Of(3) || audit.Sum(nil, 0) != wide.Of(0) {
		t.Error("Sum")
	}
	const most = 1<<63 - 1
	l := []api.Done{
		ok(deposit(0, most), api.Reply{}), ok(deposit(0, most), api.Reply{}), ok(deposit(0, 99), api.Reply{Err: 2}), ok(withdraw(0, 7), api.Reply{}), ok(withdraw(0, 7), api.Reply{Err: api.ErrHeld}),
		ok(deposit(1, 50), api.Reply{}), ok(deposit(2, 60), api.Reply{}), ok(withdraw(2, 1), api.Reply{}), ok(api.Command{Op: api.OpTrade, Qty: 4}, api.Reply{}),
		ok(api.Command{Op: api.OpClose}, api.Reply{Returns: []api.Return{{Cash: 3, Lots: []api.Lot{lot(1, 4), lot(2, 9), lot(1, 1)}}, {Cash: 2}}}),
		ok(api.Command{Op: api.OpClose}, api.Reply{Err: 1, Returns: []api.Return{{Cash: 3, Lots: []api.Lot{lot(1, 4)}}}}),
		ok(api.Command{Op: api.OpDay}, api.Reply{Returns: []api.Return{{Cash: 1, Lots: []api.Lot{lot(1, 1)}}}}),
	}
	for asset, want := range []string{"18446744073709551601", "44", "50", "0", "0"} {
		if w := audit.Sum(l, asset); wide.Text(w) != want {
			t.Error("Sum", asset, wide.Text(w))
		}
	}
}

func TestP39_2(t *testing.T) {
	a, b, c := u(1, 1), u(1, 2), u(0, 0)
	l := []api.Done{
		ok(api.Command{Op: api.OpClose}, api.Reply{Debits: []api.Debit{debit(a, b, 5), debit(c, b, 6)}}),
		ok(api.Command{Op: api.OpClose}, api.Reply{Err: 3, Debits: []api.Debit{debit(a, b, 50)}}),
		ok(api.Command{Op: api.OpDay}, api.Reply{Debits: []api.Debit{debit(a, a, 7)}}),
	}
	if d := audit.Debits(l); !slices.Equal(d, []api.Debit{debit(a, b, 5), debit(c, b, 6), debit(a, a, 7)}) {
		t.Error("Debits", d)
	}
	for i, x := range []struct {
		unit     api.Unit
		owed, by int64
	}{{a, 7, 12}, {b, 11, 0}, {c, 0, 6}, {u(9, 9), 0, 0}} {
		if audit.For(l, x.unit) != wide.Of(x.owed) || audit.By(l, x.unit) != wide.Of(x.by) {
			t.Error("For, By", i)
		}
	}
	port := api.Command{Op: api.OpPort, Unit: a}
	ports := []api.Done{
		ok(port, api.Reply{Numbers: []int64{3, 2}}), ok(port, api.Reply{Err: 5, Numbers: []int64{3, 2}}), ok(port, api.Reply{Numbers: []int64{3}}), ok(port, api.Reply{Numbers: []int64{3, 2, 1}}),
		ok(api.Command{Op: api.OpCash, Unit: a}, api.Reply{Numbers: []int64{3, 2}}), ok(api.Command{Op: api.OpPort, Unit: b}, api.Reply{Numbers: []int64{4, 0}}),
	}
	if x := audit.Ports(ports); !slices.Equal(x, []api.Choice{{From: a, To: u(3, 2), Consent: true}, {From: b, To: u(4, 0), Consent: true}}) {
		t.Error("Ports", x)
	}
}

func TestP39_3(t *testing.T) {
	log := []api.Done{ok(deposit(0, 5), api.Reply{}), ok(deposit(4, 7), api.Reply{})}
	pos := func(qty int64) []api.Pos {
		return []api.Pos{{Unit: u(1, 1), Legs: []api.Leg{{Inst: 8, Qty: qty}}}}
	}
	good := func() api.State {
		return api.State{Purse: []api.Flow{{Unit: u(1, 1), Amount: 5}}, Holds: []api.Hold{{Unit: u(1, 1), Lots: []api.Lot{lot(4, 7)}}}, Book: pos(5), Sale: pos(-5)}
	}
	if audit.Check(good(), log) != api.OK || audit.Check(api.State{}, nil) != api.OK {
		t.Error("passes")
	}
	for i, spoil := range []func(s *api.State){
		func(s *api.State) {
			s.Book = append(s.Book, api.Pos{Unit: u(1, 2), Legs: []api.Leg{{Inst: 1, Qty: 1}}})
		}, func(s *api.State) { s.Holds[0].Lots = append([]api.Lot{lot(1, 1)}, s.Holds[0].Lots...) },
		func(s *api.State) { s.Book = pos(4) }, func(s *api.State) { s.Sale = nil }, func(s *api.State) { s.Purse[0].Amount = 6 }, func(s *api.State) { s.Holds[0].Lots[0].Qty = 6 }, func(s *api.State) { s.Holds[0].Lots[0].Asset = 3 },
		func(s *api.State) { s.Holds = nil }, func(s *api.State) { s.Purse = nil },
	} {
		s := good()
		spoil(&s)
		if audit.Check(s, log) != api.ErrForm {
			t.Error("passes", i)
		}
	}
}

func TestP39_4(t *testing.T) {
	s := api.State{
		Accounts: []api.Account{
			{Id: 1, Member: 1, Kind: api.Net, Clients: []int{1, 2}}, {Id: 2, Member: 1, Kind: api.House}, {Id: 3, Member: 1, Kind: api.Gross, Clients: []int{1, 2}},
			{Id: 4, Member: 2, Kind: api.House}, {Id: 5, Member: 2, Kind: api.Net, Clients: []int{1, 2}}, {Id: 1, Member: 2, Kind: api.Net, Clients: []int{1, 7}},
		},
		Purse: []api.Flow{{Unit: u(1, 1), Amount: -10}, {Unit: u(1, 2), Amount: 10}, {Unit: u(3, 1), Amount: -10}, {Unit: u(5, 1), Amount: -10}},
	}
	closed := api.Command{Op: api.OpClose, Member: 1}
	for i, c := range []struct {
		c    api.Command
		e    api.Errno
		l    []api.Debit
		want bool
	}{
		{closed, api.OK, nil, true}, {api.Command{Op: api.OpDay}, api.OK, nil, true}, {api.Command{Op: api.OpDay}, api.ErrForm, []api.Debit{debit(u(9, 9), u(9, 9), -1)}, true},
		{api.Command{Op: api.OpDay, Member: 1}, api.OK, []api.Debit{debit(u(1, 1), u(1, 1), 1)}, false},
		{closed, api.OK, []api.Debit{debit(u(1, 1), u(1, 1), 1)}, true}, {closed, api.OK, []api.Debit{debit(u(1, 1), u(1, 1), 0)}, false}, {closed, api.OK, []api.Debit{debit(u(1, 1), u(1, 1), -1)}, false},
		{closed, api.OK, []api.Debit{debit(u(0, 0), u(1, 1), 10)}, true}, {closed, api.OK, []api.Debit{debit(u(0, 0), u(1, 1), 11)}, false},
		{closed, api.OK, []api.Debit{debit(u(0, 1), u(1, 1), 1)}, false}, {closed, api.OK, []api.Debit{debit(u(1, 2), u(1, 1), 1)}, true}, {closed, api.OK, []api.Debit{debit(u(1, 7), u(1, 1), 1)}, false},
		{closed, api.OK, []api.Debit{debit(u(1, 2), u(3, 1), 1)}, false}, {closed, api.OK, []api.Debit{debit(u(3, 2), u(3, 1), 1)}, false}, {closed, api.OK, []api.Debit{debit(u(2, 0), u(3, 1), 1)}, true},
		{closed, api.OK, []api.Debit{debit(u(4, 0), u(3, 1), 1)}, false}, {closed, api.OK, []api.Debit{debit(u(5, 1), u(5, 1), 1)}, false}, {closed, api.OK, []api.Debit{debit(u(9, 9), u(9, 9), 1)}, false},
		{closed, api.OK, []api.Debit{debit(u(1, 2), u(1, 2), 1)}, false}, {closed, api.OK, []api.Debit{debit(u(2, 0), u(2, 0), 1)}, false},
		{closed, api.OK, []api.Debit{debit(u(1, 2), u(1, 1), 4), debit(u(0, 0), u(3, 1), 10), debit(u(2, 0), u(1, 1), 6)}, true},
		{closed, api.OK, []api.Debit{debit(u(1, 2), u(1, 1), 4), debit(u(0, 0), u(3, 1), 10), debit(u(2, 0), u(1, 1), 7)}, false},
		{api.Command{Op: api.OpClose, Member: 2}, api.OK, []api.Debit{debit(u(5, 2), u(5, 1), 4), debit(u(4, 0), u(5, 1), 4)}, true},
		{api.Command{Op: api.OpClose, Member: 2}, api.OK, []api.Debit{debit(u(1, 7), u(1, 1), 1)}, false},
	} {
		if audit.Fair(s, ok(c.c, api.Reply{Err: c.e, Debits: c.l})) != c.want {
			t.Error("Fair", i, c)
		}
	}
	const most = 1<<63 - 1
	if s.Purse[0].Amount = -1 << 63; audit.Fair(s, ok(closed, api.Reply{Debits: []api.Debit{debit(u(0, 0), u(1, 1), most), debit(u(0, 0), u(1, 1), 2)}})) || !audit.Fair(s, ok(closed, api.Reply{Debits: []api.Debit{debit(u(0, 0), u(1, 1), most), debit(u(0, 0), u(1, 1), 1)}})) {
		t.Error("sums of more than 64 bits")
	}
}

// live does a life by the rules, and has each command looked at, with the ledgers ahead of it and behind it, and the log.
func live(seed uint64, wild bool, n int, look func(s, x api.State, l []api.Done)) {
	var s api.State
	var log []api.Done
	gen := &lives{seed: seed, wild: wild}
	first := start()
	for i := range n {
		var c api.Command
		if i < len(first) {
			c = first[i]
		} else {
			c = gen.command(s)
		}
		x, r := rules.Apply(s, c)
		log = append(log, api.Done{Command: c, Reply: r})
		look(s, x, log)
		s = x
	}
}

func TestP39_5(t *testing.T) {
	closed := 0
	for seed := range uint64(30) {
		live(seed, seed%3 == 0, 500, func(s, x api.State, l []api.Done) {
			last := l[len(l)-1]
			if audit.Check(x, l) != api.OK || !audit.Fair(s, last) {
				t.Fatal("Check, Fair", last)
			}
			closed += len(last.Reply.Debits)
		})
	}
	if closed == 0 {
		t.Error("nobody paid")
	}
}
