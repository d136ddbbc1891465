package ledger_test

import (
	"bytes"
	"fmt"
	"slices"
	"testing"

	"novation/api"
	"novation/ledger"
	"novation/pack"
)

// same tells whether two things are alike: none and nothing are one.
func same(a, b any) bool { return fmt.Sprintf("%d", a) == fmt.Sprintf("%d", b) }

func u(account, client int) api.Unit { return api.Unit{Account: account, Client: client} }

func pos(unit api.Unit, inst int, qty int64) api.Pos {
	return api.Pos{Unit: unit, Legs: []api.Leg{{Inst: inst, Qty: qty}}}
}

func held(unit api.Unit, l ...api.Lot) api.Hold { return api.Hold{Unit: unit, Lots: l} }

// rich answers a ledger that has something of all there is.
func rich() api.State {
	return api.State{
		Day:      77,
		Members:  []api.Member{{Id: 1, Cap: 100}, {Id: 4, Cap: 1 << 62, Phase: 3, Until: 1 << 21}},
		Insts:    []api.Inst{{Id: 1, Mult: 10, Price: 7, Next: 8, Moves: []int64{2, -3}}, {Id: 8, Mult: 1 << 16}},
		Assets:   []api.Asset{{Id: 1, Price: 3, Haircut: 1000}, {Id: 3}},
		Accounts: []api.Account{{Id: 1, Member: 1, Kind: 1}, {Id: 2, Member: 1, Kind: 2, Clients: []int{1, 16}}, {Id: 16, Member: 4, Kind: 4, Clients: []int{5}}},
		Choices:  []api.Choice{{From: u(2, 1), To: u(16, 5), Consent: true}, {From: u(2, 16), To: u(2, 1)}},
		Groups:   []api.Group{{Id: 1, Unit: u(1, 0), Inst: 1, Price: 1<<31 - 1, Left: -api.MaxQty}, {Id: 2, Unit: u(2, 1), Inst: 8, Left: api.MaxQty}},
		Gives:    []api.Give{{Id: 1, From: u(1, 0), To: u(2, 1), Leg: api.Leg{Inst: 1, Qty: -api.MaxQty}, Price: 5, Group: 2, Day: 1 << 21, State: 5}, {Id: 2, From: u(2, 1), To: u(1, 0), Leg: api.Leg{Inst: 8, Qty: api.MaxQty}, State: 1}},
		Book:     []api.Pos{pos(u(1, 0), 1, -9), pos(u(2, 1), 8, 1<<63-1)},
		Sale:     []api.Pos{pos(u(2, 16), 8, 5), pos(u(16, 5), 1, 4)},
		Purse:    []api.Flow{{Unit: u(0, 0), Amount: 1}, {Unit: u(0, 1), Amount: -1}, {Unit: u(2, 1), Amount: -1 << 63}},
		Holds:    []api.Hold{held(u(0, 0), api.Lot{Asset: 1, Qty: 4}), held(u(0, 1), api.Lot{Asset: 3, Qty: 4}), held(u(16, 5), api.Lot{Asset: 1, Tag: 3, Qty: 1}, api.Lot{Asset: 3, Tag: 255, Qty: 1})},
	}
}

// spoils are changes by each of which a ledger is none any more.
func spoils() []func(s *api.State) {
	return []func(s *api.State){
		func(s *api.State) { s.Day = -1 }, func(s *api.State) { s.Day = 1<<20 + 1 },
		func(s *api.State) { s.Members = append(s.Members, s.Members[1]) }, func(s *api.State) { s.Insts = append(s.Insts, s.Insts[1]) }, func(s *api.State) { s.Assets = append(s.Assets, s.Assets[1]) }, func(s *api.State) { s.Accounts = append(s.Accounts, s.Accounts[2]) },
		func(s *api.State) { s.Members[0].Id = 4 }, func(s *api.State) { s.Members[0].Cap = -1 }, func(s *api.State) { s.Members[1].Id = 5 }, func(s *api.State) { s.Members[1].Phase = 4 },
		func(s *api.State) { s.Insts[0].Id = 8 }, func(s *api.State) { s.Insts[1].Mult = 0 }, func(s *api.State) { s.Insts[0].Moves = make([]int64, 9) }, func(s *api.State) { slices.Reverse(s.Insts) },
		func(s *api.State) { s.Assets[0].Id = 3 }, func(s *api.State) { s.Assets[1].Haircut = 10001 }, func(s *api.State) { slices.Reverse(s.Assets) },
		func(s *api.State) { s.Accounts[1].Id = 1 }, func(s *api.State) { s.Accounts[1].Clients = []int{16, 1} }, func(s *api.State) { s.Accounts[1].Member = 2 },
		func(s *api.State) { s.Choices[1].From = u(2, 1) }, func(s *api.State) { s.Choices[1].To = u(2, 16) }, func(s *api.State) { s.Choices[0].From = u(1, 1) }, func(s *api.State) { s.Choices[0].To = u(0, 0) },
		func(s *api.State) { s.Groups[0].Id = 0 }, func(s *api.State) { s.Groups[1].Id = 3 }, func(s *api.State) { s.Groups[0].Unit = u(0, 0) }, func(s *api.State) { s.Groups[0].Inst = 2 },
		func(s *api.State) { s.Groups[0].Price = -1 }, func(s *api.State) { s.Groups[0].Price = 1 << 31 }, func(s *api.State) { s.Groups[0].Left-- }, func(s *api.State) { s.Groups[1].Left++ },
		func(s *api.State) { s.Groups = many(65) },
		func(s *api.State) { s.Gives[1].Id = 1 }, func(s *api.State) { s.Gives[0].From = u(0, 1) }, func(s *api.State) { s.Gives[0].To = u(2, 2) }, func(s *api.State) { s.Gives[0].To = u(1, 0) },
		func(s *api.State) { s.Gives[0].Leg.Inst = 0 }, func(s *api.State) { s.Gives[0].Leg.Qty = 0 }, func(s *api.State) { s.Gives[0].Leg.Qty-- }, func(s *api.State) { s.Gives[1].Leg.Qty++ },
		func(s *api.State) { s.Gives[0].Price = -1 }, func(s *api.State) { s.Gives[0].Price = 1 << 31 }, func(s *api.State) { s.Gives[0].Group = -1 }, func(s *api.State) { s.Gives[0].Group = 3 },
		func(s *api.State) { s.Gives[0].Day = -1 }, func(s *api.State) { s.Gives[0].Day++ }, func(s *api.State) { s.Gives[0].State = 0 }, func(s *api.State) { s.Gives[0].State = 6 },
		func(s *api.State) { s.Gives = gives(65) },
		func(s *api.State) { s.Book[0].Legs = nil }, func(s *api.State) { s.Book[0].Unit = u(0, 0) }, func(s *api.State) { s.Book[0].Legs[0].Inst = 2 }, func(s *api.State) { slices.Reverse(s.Book) },
		func(s *api.State) { s.Sale[0].Legs[0].Qty = 0 }, func(s *api.State) { s.Sale[0].Unit = u(2, 2) }, func(s *api.State) { s.Sale[1].Legs[0].Inst = 2 },
		func(s *api.State) { s.Purse[0].Amount = 0 }, func(s *api.State) { s.Purse[1].Unit = u(0, 2) }, func(s *api.State) { s.Purse[2].Unit = u(2, 2) }, func(s *api.State) { slices.Reverse(s.Purse) },
		func(s *api.State) { s.Holds[0].Lots = nil }, func(s *api.State) { s.Holds[0].Lots[0].Asset = 2 }, func(s *api.State) { s.Holds[2].Unit = u(16, 6) }, func(s *api.State) { s.Holds[1].Unit = u(0, 0) },
	}
}

func many(n int) []api.Group {
	var l []api.Group
	for i := range n {
		l = append(l, api.Group{Id: i + 1, Unit: u(1, 0), Inst: 1})
	}
	return l
}

func gives(n int) []api.Give {
	var l []api.Give
	for i := range n {
		l = append(l, api.Give{Id: i + 1, From: u(1, 0), To: u(2, 1), Leg: api.Leg{Inst: 1, Qty: 1}, State: 1})
	}
	return l
}

func TestP33_1(t *testing.T) {
	if ledger.Check(ledger.Empty()) != api.OK || !same(ledger.Empty(), api.State{}) || ledger.Check(rich()) != api.OK {
		t.Error("are ledgers", ledger.Check(rich()))
	}
	full := rich()
	full.Groups, full.Gives, full.Day = many(64), gives(64), 1<<20
	if ledger.Check(full) != api.OK {
		t.Error("64 of each")
	}
	for i, spoil := range spoils() {
		s := rich()
		spoil(&s)
		if e := ledger.Check(s); e != api.ErrForm {
			t.Error("Check", i, e)
		}
		if x, e := ledger.Decode(ledger.Encode(s)); e != api.ErrForm || !same(x, api.State{}) {
			t.Error("Decode", i, e)
		}
	}
}

func TestP33_2(t *testing.T) {
	if b := ledger.Encode(ledger.Empty()); !bytes.Equal(b, make([]byte, 12)) {
		t.Errorf("%x", b)
	}
	s := api.State{
		Day: 1, Members: []api.Member{{Id: 2, Cap: 3, Phase: 1, Until: 4}}, Insts: []api.Inst{{Id: 5, Mult: 6, Price: 7, Next: 8, Moves: []int64{-1, 9}}},
		Assets: []api.Asset{{Id: 3, Price: 10, Haircut: 11}}, Accounts: []api.Account{{Id: 12, Member: 2, Kind: 3, Clients: []int{13, 14}}},
		Choices: []api.Choice{{From: u(12, 13), To: u(12, 14), Consent: true}}, Groups: []api.Group{{Id: 1, Unit: u(12, 13), Inst: 5, Price: 15, Left: -16}},
		Gives: []api.Give{{Id: 1, From: u(12, 13), To: u(12, 14), Leg: api.Leg{Inst: 5, Qty: 17}, Price: 18, Group: 1, Day: 19, State: 2}},
		Book:  []api.Pos{pos(u(12, 13), 5, 20)}, Sale: []api.Pos{pos(u(12, 14), 5, -20)}, Purse: []api.Flow{{Unit: u(0, 1), Amount: 21}}, Holds: []api.Hold{held(u(12, 14), api.Lot{Asset: 3, Tag: 22, Qty: 23})},
	}
	numbers := func(consent int64) []byte {
		return pack.New().Int(1, 1, 2, 3, 1, 4, 1, 5, 6, 7, 8, 2, -1, 9, 1, 3, 10, 11, 1, 12, 2, 3, 2, 13, 14, 1, 12, 13, 12, 14, consent, 1, 1, 12, 13, 5, 15, -16,
			1, 1, 12, 13, 12, 14, 5, 17, 18, 1, 19, 2, 1, 12, 13, 1, 5, 20, 1, 12, 14, 1, 5, -20, 1, 0, 1, 21, 1, 12, 14, 1, 3, 22, 23).Done()
	}
	want := numbers(1)
	if !bytes.Equal(ledger.Encode(s), want) {
		t.Errorf("%x\n%x", ledger.Encode(s), want)
	}
	if x, e := ledger.Decode(want); e != api.OK || !same(x, s) {
		t.Error("Decode", x, e)
	}
	good := ledger.Encode(rich())
	if x, e := ledger.Decode(good); e != api.OK || !ledger.Same(x, rich()) {
		t.Error("there and back", x, e)
	}
	for i := range good {
		if x, e := ledger.Decode(good[:i]); e != api.ErrForm || !same(x, api.State{}) {
			t.Error("short", i, e)
		}
		for _, c := range []byte{good[i] ^ 1, good[i] ^ 128, 0, 255} {
			b := bytes.Clone(good)
			b[i] = c
			if x, e := ledger.Decode(b); e == api.OK && !bytes.Equal(ledger.Encode(x), b) {
				t.Error("changed", i, c)
			}
		}
	}
	for _, b := range [][]byte{append(bytes.Clone(good), 0), nil, {0}, make([]byte, 13), append([]byte{0x80, 0}, make([]byte, 11)...), pack.New().Int(0, 1<<62).Done(), pack.New().Int(0, -1).Done()} {
		if x, e := ledger.Decode(b); e != api.ErrForm || !same(x, api.State{}) {
			t.Error("Decode", b, e)
		}
	}
	if _, e := ledger.Decode(numbers(0)); e != api.OK {
		t.Error("a bool of 0", e)
	}
	if _, e := ledger.Decode(numbers(2)); e != api.ErrForm {
		t.Error("a bool of 2", e)
	}
}

func TestP33_3(t *testing.T) {
	s := rich()
	x := ledger.Clone(s)
	if !ledger.Same(s, x) || !ledger.Same(ledger.Empty(), api.State{Members: []api.Member{}, Book: []api.Pos{}}) || ledger.Same(s, ledger.Empty()) {
		t.Error("Same")
	}
	for i, spoil := range spoils() {
		s := rich()
		spoil(&s)
		if ledger.Same(s, rich()) || !ledger.Same(s, ledger.Clone(s)) {
			t.Error("Same", i)
		}
	}
	for i, spoil := range spoils() {
		x := ledger.Clone(s)
		spoil(&x)
		if !ledger.Same(s, rich()) {
			t.Fatal("memory of its own", i)
		}
	}
	s.Choices[0].Consent = false
	if ledger.Same(s, rich()) {
		t.Error("Same but for a bool")
	}
	if l := ledger.Units(rich()); !slices.Equal(l, []api.Unit{u(1, 0), u(2, 1), u(2, 16), u(16, 5)}) {
		t.Error("Units", l)
	}
	if l := ledger.Units(api.State{Accounts: []api.Account{{Id: 9, Kind: 3, Clients: []int{7, 7, 1}}, {Id: 2, Kind: 1}}}); !slices.Equal(l, []api.Unit{u(9, 7), u(9, 7), u(9, 1), u(2, 0)}) {
		t.Error("Units of no table", l)
	}
}

func TestP33_4(t *testing.T) {
	seen := map[string]int{}
	for i, spoil := range append(spoils(), func(s *api.State) {}, func(s *api.State) { s.Day = 5 }, func(s *api.State) { s.Book, s.Sale = s.Sale, s.Book }, func(s *api.State) { s.Purse = nil }) {
		s := rich()
		spoil(&s)
		b := string(ledger.Encode(s))
		if j, ok := seen[b]; ok {
			t.Error("one's bytes are another one's", i, j)
		}
		seen[b] = i
		if x, e := ledger.Decode([]byte(b)); e == api.OK && (!ledger.Same(x, s) || ledger.Check(s) != api.OK) {
			t.Error("there and back", i)
		}
	}
}
