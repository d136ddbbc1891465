package port_test

import (
	"fmt"
	"slices"
	"testing"

	"novation/api"
	"novation/book"
	"novation/hold"
	"novation/port"
	"novation/purse"
)

// same tells whether two things are alike: none and nothing are one.
func same(a, b any) bool { return fmt.Sprintf("%d", a) == fmt.Sprintf("%d", b) }

const least, most = -1 << 63, 1<<63 - 1

func u(account, client int) api.Unit { return api.Unit{Account: account, Client: client} }

func pos(unit api.Unit, inst int, qty int64) api.Pos {
	return api.Pos{Unit: unit, Legs: []api.Leg{{Inst: inst, Qty: qty}}}
}

func lots(qty int64) []api.Lot { return []api.Lot{{Asset: 1, Tag: 3, Qty: qty}} }

// start answers a state in which member 1 is in its window, and 1.2 wants to be taken to 3.2.
func start() api.State {
	return api.State{
		Day:     5,
		Members: []api.Member{{Id: 1, Cap: 9, Phase: 1, Until: 5}, {Id: 2, Cap: 20}, {Id: 3, Cap: 9, Phase: 2}},
		Accounts: []api.Account{
			{Id: 1, Member: 1, Kind: api.Net, Clients: []int{1, 2, 3, 4}}, {Id: 2, Member: 1, Kind: api.House}, {Id: 3, Member: 2, Kind: api.Gross, Clients: []int{2, 4}},
			{Id: 4, Member: 2, Kind: api.House}, {Id: 5, Member: 3, Kind: api.Seg, Clients: []int{2}}, {Id: 6, Member: 7, Kind: api.Seg, Clients: []int{2}},
		},
		Choices: []api.Choice{{From: u(1, 2), To: u(3, 2), Consent: true}, {From: u(1, 4), To: u(3, 4)}},
		Book:    []api.Pos{pos(u(1, 1), 1, 3), pos(u(1, 2), 1, -8), pos(u(3, 4), 1, 5), pos(u(4, 0), 2, -7)},
		Purse:   []api.Flow{{Unit: u(1, 1), Amount: 3}, {Unit: u(1, 2), Amount: -50}, {Unit: u(3, 4), Amount: 6}},
		Holds:   []api.Hold{{Unit: u(1, 1), Lots: lots(8)}, {Unit: u(1, 2), Lots: lots(4)}},
	}
}

func TestP29_1(t *testing.T) {
	s := start()
	for id, want := range map[int]int64{1: 11, 2: 12, 3: 0, 7: 0, 9: 0} {
		if n, e := port.Used(s, id); n != want || e != api.OK {
			t.Error("Used", id, n, e)
		}
	}
	s.Book = []api.Pos{pos(u(1, 1), 1, most), pos(u(1, 2), 1, most)}
	if n, e := port.Used(s, 1); n != 0 || e != api.ErrRange {
		t.Error("Used", n, e)
	}
	s.Book = []api.Pos{{}}
	if n, e := port.Used(s, 9); n != 0 || e != api.ErrForm {
		t.Error("Used", n, e)
	}
}

func elects(s *api.State, to api.Unit) { s.Choices[0].To = to }

func TestP29_2(t *testing.T) {
	if to, e := port.May(start(), u(1, 2)); to != u(3, 2) || e != api.OK {
		t.Error("May", to, e)
	}
	for i, c := range []struct {
		from  api.Unit
		spoil func(s *api.State)
		e     api.Errno
	}{
		{u(1, 9), func(s *api.State) {}, api.ErrNone}, {u(2, 0), func(s *api.State) {}, api.ErrKind}, {u(3, 2), func(s *api.State) {}, api.ErrWindow},
		{u(1, 2), func(s *api.State) { s.Day = 6; s.Choices = nil }, api.ErrWindow}, {u(5, 2), func(s *api.State) {}, api.ErrWindow}, {u(6, 2), func(s *api.State) {}, api.ErrWindow},
		{u(1, 1), func(s *api.State) {}, api.ErrElect}, {u(1, 4), func(s *api.State) {}, api.ErrConsent},
		{u(1, 2), func(s *api.State) { elects(s, u(9, 9)) }, api.ErrNone}, {u(1, 2), func(s *api.State) { elects(s, u(4, 0)) }, api.ErrKind},
		{u(1, 2), func(s *api.State) { elects(s, u(5, 2)) }, api.ErrFrozen}, {u(1, 2), func(s *api.State) { elects(s, u(6, 2)) }, api.ErrFrozen}, {u(1, 2), func(s *api.State) { elects(s, u(1, 1)) }, api.ErrFrozen},
		{u(1, 2), func(s *api.State) { s.Book = append(s.Book[:2], pos(u(3, 2), 1, 1)) }, api.ErrBusy},
		{u(1, 2), func(s *api.State) { s.Purse[2].Unit = u(3, 2); s.Book[1] = pos(u(1, 2), 1, least) }, api.ErrBusy},
		{u(1, 2), func(s *api.State) { s.Holds[1].Unit = u(3, 2) }, api.ErrBusy},
		{u(1, 2), func(s *api.State) { s.Book[1] = pos(u(1, 2), 1, least); s.Book[2] = pos(u(3, 4), 1, most) }, api.ErrRange},
		{u(1, 2), func(s *api.State) { s.Book[2] = pos(u(3, 4), 1, most); s.Book[3] = pos(u(4, 0), 1, most) }, api.ErrRange},
		{u(1, 2), func(s *api.State) { s.Book[2] = pos(u(3, 4), 1, 6) }, api.ErrCap}, {u(1, 2), func(s *api.State) { s.Members[1].Cap = 19 }, api.ErrCap},
		{u(1, 2), func(s *api.State) { s.Book = []api.Pos{pos(u(1, 2), 1, 0)} }, api.ErrForm},
	} {
		s := start()
		c.spoil(&s)
		if to, e := port.May(s, c.from); to != u(0, 0) || e != c.e {
			t.Error("May", i, to, e)
		}
		if x, to, e := port.Port(s, c.from); to != u(0, 0) || e != c.e || !same(x, api.State{}) {
			t.Error("Port", i, to, e)
		}
	}
}

func TestP29_3(t *testing.T) {
	s := start()
	x, to, e := port.Port(s, u(1, 2))
	want := start()
	want.Choices = want.Choices[1:]
	want.Book = []api.Pos{pos(u(1, 1), 1, 3), pos(u(3, 2), 1, -8), pos(u(3, 4), 1, 5), pos(u(4, 0), 2, -7)}
	want.Purse = []api.Flow{{Unit: u(1, 1), Amount: 3}, {Unit: u(3, 2), Amount: -50}, {Unit: u(3, 4), Amount: 6}}
	want.Holds = []api.Hold{{Unit: u(1, 1), Lots: lots(8)}, {Unit: u(3, 2), Lots: lots(4)}}
	if to != u(3, 2) || e != api.OK || !same(x, want) {
		t.Error("Port", x, to, e)
	}
	x.Accounts[0].Clients[0], x.Book[0].Legs[0].Qty, x.Holds[0].Lots[0].Qty, x.Members[0].Cap, x.Choices[0].To = 9, 9, 9, 1, u(0, 0)
	if !same(s, start()) {
		t.Error("changed", s)
	}
	for i, c := range []struct {
		spoil func(s *api.State)
		e     api.Errno
	}{
		{func(s *api.State) { s.Purse[1].Amount = least; s.Holds[0].Lots = nil }, api.ErrRange},
		{func(s *api.State) { s.Purse[0].Amount = 0; s.Purse[1].Amount = least }, api.ErrForm},
		{func(s *api.State) { s.Holds[0].Lots = nil }, api.ErrForm},
	} {
		s := start()
		c.spoil(&s)
		if _, e := port.May(s, u(1, 2)); e != api.OK {
			t.Error("May", i, e)
		}
		if x, to, e := port.Port(s, u(1, 2)); to != u(0, 0) || e != c.e || !same(x, api.State{}) {
			t.Error("Port", i, to, e)
		}
	}
}

// has tells whether a unit has anything.
func has(s api.State, unit api.Unit) bool {
	return len(book.Of(s.Book, unit)) > 0 || purse.Get(s.Purse, unit) != 0 || len(hold.Lots(s.Holds, unit)) > 0
}

func TestP29_4(t *testing.T) {
	s := start()
	x, to, _ := port.Port(s, u(1, 2))
	if purse.Get(x.Purse, to) != -50 || !slices.Equal(hold.Lots(x.Holds, to), lots(4)) || has(x, u(1, 2)) {
		t.Error("not what it had", x)
	}
	for _, o := range []api.Unit{u(1, 1), u(1, 3), u(3, 4), u(4, 0), u(2, 0)} {
		if purse.Get(x.Purse, o) != purse.Get(s.Purse, o) || !slices.Equal(hold.Lots(x.Holds, o), hold.Lots(s.Holds, o)) || !slices.Equal(book.Of(x.Book, o), book.Of(s.Book, o)) {
			t.Error("somebody else", o)
		}
	}
	if _, _, e := port.Port(x, u(1, 2)); e != api.ErrElect {
		t.Error("again", e)
	}
}
