package auct_test

import (
	"fmt"
	"testing"

	"novation/api"
	"novation/auct"
	"novation/book"
	"novation/purse"
	"novation/wide"
)

// same tells whether two things are alike: none and nothing are one.
func same(a, b any) bool { return fmt.Sprintf("%d", a) == fmt.Sprintf("%d", b) }

const least, most = -1 << 63, 1<<63 - 1

func u(account, client int) api.Unit { return api.Unit{Account: account, Client: client} }

func pos(unit api.Unit, l ...int64) api.Pos {
	p := api.Pos{Unit: unit}
	for i := 0; i < len(l); i += 2 {
		p.Legs = append(p.Legs, api.Leg{Inst: int(l[i]), Qty: l[i+1]})
	}
	return p
}

func like(a, b api.State) bool { return same(a, b) }

// start answers a state in which member 1 is selling.
func start() api.State {
	return api.State{
		Members:  []api.Member{{Id: 1, Phase: 2}, {Id: 2}, {Id: 3, Phase: 1}},
		Insts:    []api.Inst{{Id: 1, Mult: 10, Price: 7}, {Id: 2, Mult: 1}},
		Accounts: []api.Account{{Id: 1, Member: 1, Kind: api.Net, Clients: []int{1, 2}}, {Id: 2, Member: 1, Kind: api.House}, {Id: 3, Member: 2, Kind: api.House}, {Id: 4, Member: 2, Kind: api.Seg, Clients: []int{1}}, {Id: 5, Member: 3, Kind: api.House}, {Id: 6, Member: 8, Kind: api.House}},
		Book:     []api.Pos{pos(u(1, 1), 1, 3, 2, -4), pos(u(2, 0), 1, 5), pos(u(3, 0), 1, -8, 2, 4)},
		Sale:     []api.Pos{pos(u(1, 1), 1, 2), pos(u(1, 2), 1, -5), pos(u(5, 0), 1, 3)},
		Purse:    []api.Flow{{Unit: u(1, 1), Amount: 5}},
	}
}

func TestP30_1(t *testing.T) {
	s, want := start(), start()
	x, e := auct.Start(s, 1)
	want.Book = want.Book[2:]
	want.Sale = []api.Pos{pos(u(1, 1), 1, 5, 2, -4), pos(u(1, 2), 1, -5), pos(u(2, 0), 1, 5), pos(u(5, 0), 1, 3)}
	if e != api.OK || !like(x, want) {
		t.Error("Start", x, e)
	}
	if l := auct.Left(x, 1); !same(l, want.Sale[:3]) {
		t.Error("Left", l)
	}
	x.Sale[0].Legs[0].Qty, x.Book[0].Legs[0].Qty, auct.Left(s, 1)[0].Legs[0].Qty = 77, 77, 77
	if !like(s, start()) {
		t.Error("changed", s)
	}
	x, e = auct.Start(s, 9)
	if e != api.OK || !like(x, s) || len(auct.Left(s, 9)) > 0 {
		t.Error("of nobody", x, e)
	}
	if x.Sale[0].Legs[0].Qty, x.Book[0].Legs[0].Qty, x.Accounts[0].Clients[0] = 77, 77, 77; !like(s, start()) {
		t.Error("changed", s)
	}
	s.Sale[0] = pos(u(1, 1), 1, most)
	if x, e := auct.Start(s, 1); e != api.ErrRange || !like(x, api.State{}) {
		t.Error("Start", x, e)
	}
	s = start()
	s.Book[0] = pos(u(1, 1), 1, least)
	if x, e := auct.Start(s, 1); e != api.OK || book.Of(x.Sale, u(1, 1))[0].Qty != least+2 {
		t.Error("the least", x, e)
	}
	for i, spoil := range []func(s *api.State){func(s *api.State) { s.Book[2].Legs = nil }, func(s *api.State) { s.Sale[2].Legs = nil }} {
		s := start()
		spoil(&s)
		if x, e := auct.Start(s, 9); e != api.ErrForm || !like(x, api.State{}) {
			t.Error("Start", i, x, e)
		}
	}
}

func TestP30_2(t *testing.T) {
	s := start()
	s.Sale[0] = pos(u(1, 1), 1, 4)
	s.Book = s.Book[:0]
	x, e := auct.Fill(s, u(1, 1), u(3, 0), 1, 3, 5)
	want := start()
	want.Sale[0] = pos(u(1, 1), 1, 1)
	want.Book = []api.Pos{pos(u(3, 0), 1, 3)}
	want.Purse = []api.Flow{{Unit: u(1, 1), Amount: -55}, {Unit: u(3, 0), Amount: 60}}
	if e != api.OK || !like(x, want) {
		t.Error("Fill", x, e)
	}
	x, e = auct.Fill(x, u(1, 2), u(3, 0), 1, -5, 8)
	want.Sale = []api.Pos{want.Sale[0], want.Sale[2]}
	want.Book = []api.Pos{pos(u(3, 0), 1, -2)}
	want.Purse = []api.Flow{{Unit: u(1, 1), Amount: -55}, {Unit: u(1, 2), Amount: -50}, {Unit: u(3, 0), Amount: 110}}
	if e != api.OK || !like(x, want) {
		t.Error("Fill", x, e)
	}
}

func TestP30_2_Edges(t *testing.T) {
	for _, price := range []int64{0, 1<<31 - 1} {
		s := start()
		x, e := auct.Fill(s, u(1, 1), u(3, 0), 1, 2, price)
		if e != api.OK || purse.Get(x.Purse, u(3, 0)) != 20*(7-price) {
			t.Error("Fill", price, x.Purse, e)
		}
		if x.Accounts[0].Clients[0], x.Members[0].Cap, x.Sale[0].Legs[0].Qty = 77, 77, 77; !like(s, start()) {
			t.Error("changed", s)
		}
	}
}

func TestP30_2_Errors(t *testing.T) {
	none := func(s *api.State) {}
	for i, c := range []struct {
		u, to      api.Unit
		id         int
		qty, price int64
		spoil      func(s *api.State)
		e          api.Errno
	}{
		{u(1, 1), u(9, 0), 9, 0, -1, func(s *api.State) { s.Book[0].Legs = nil }, api.ErrForm}, {u(1, 1), u(9, 0), 9, 0, -1, func(s *api.State) { s.Sale[0].Legs = nil }, api.ErrForm},
		{u(1, 1), u(9, 0), 9, 0, -1, func(s *api.State) { s.Purse[0].Amount = 0 }, api.ErrForm}, {u(1, 1), u(9, 0), 9, 0, -1, none, api.ErrNone},
		{u(1, 1), u(9, 0), 1, 0, 5, none, api.ErrArg}, {u(1, 1), u(9, 0), 1, 9, -1, none, api.ErrArg}, {u(1, 1), u(9, 0), 1, 9, 1 << 31, none, api.ErrArg},
		{u(1, 1), u(9, 0), 1, 3, 5, none, api.ErrHeld}, {u(1, 1), u(9, 0), 1, -1, 5, none, api.ErrHeld}, {u(1, 2), u(9, 0), 1, -6, 5, none, api.ErrHeld}, {u(1, 2), u(9, 0), 1, 1, 5, none, api.ErrHeld},
		{u(1, 1), u(9, 0), 2, 1, 5, none, api.ErrHeld}, {u(7, 7), u(9, 0), 1, -1, 5, none, api.ErrHeld}, {u(7, 7), u(9, 0), 1, least, 5, none, api.ErrHeld},
		{u(1, 1), u(9, 0), 1, 2, 5, none, api.ErrNone}, {u(1, 1), u(4, 1), 1, 2, 5, none, api.ErrKind}, {u(1, 1), u(5, 0), 1, 2, 5, none, api.ErrFrozen}, {u(1, 1), u(6, 0), 1, 2, 5, none, api.ErrFrozen}, {u(1, 1), u(2, 0), 1, 2, 5, none, api.ErrFrozen},
		{u(1, 1), u(3, 0), 1, most, 5, func(s *api.State) { s.Sale[0] = pos(u(1, 1), 1, most) }, api.ErrRange},
		{u(1, 1), u(3, 0), 1, least, 7, func(s *api.State) { s.Sale[0] = pos(u(1, 1), 1, least) }, api.ErrRange},
		{u(1, 1), u(3, 0), 1, 2, 7, func(s *api.State) { s.Book[2] = pos(u(3, 0), 1, most) }, api.ErrRange},
		{u(1, 1), u(3, 0), 1, 2, 5, func(s *api.State) { s.Purse[0].Amount = least }, api.ErrRange},
	} {
		s := start()
		c.spoil(&s)
		if x, e := auct.Fill(s, c.u, c.to, c.id, c.qty, c.price); e != c.e || !like(x, api.State{}) {
			t.Error(i, c.u, c.to, c.qty, e)
		}
	}
}

func TestP30_3(t *testing.T) {
	s := start()
	x, e := auct.Start(s, 1)
	y, f := auct.Fill(x, u(2, 0), u(3, 0), 1, 4, 9)
	if e != api.OK || f != api.OK || purse.Total(y.Purse) != purse.Total(s.Purse) {
		t.Error("cash", e, f)
	}
	for inst := range 9 {
		all := func(s api.State) wide.Wide {
			w, _ := wide.Add(book.Open(s.Book, inst), book.Open(s.Sale, inst))
			return w
		}
		if all(x) != all(s) || all(y) != all(s) {
			t.Error("in both together", inst)
		}
	}
	if !same(book.Of(y.Sale, u(1, 1)), book.Of(x.Sale, u(1, 1))) || !same(book.Of(y.Sale, u(5, 0)), book.Of(s.Sale, u(5, 0))) {
		t.Error("somebody else's")
	}
}
