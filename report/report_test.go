package report_test

import (
	"fmt"
	"slices"
	"strings"
	"testing"

	"novation/api"
	"novation/report"
	"novation/units"
)

func u(account, client int) api.Unit { return api.Unit{Account: account, Client: client} }

func pos(unit api.Unit, l ...int64) api.Pos {
	p := api.Pos{Unit: unit}
	for i := 0; i < len(l); i += 2 {
		p.Legs = append(p.Legs, api.Leg{Inst: int(l[i]), Qty: l[i+1]})
	}
	return p
}

func start() api.State {
	return api.State{
		Day:      12,
		Members:  []api.Member{{Id: 1, Cap: 90}, {Id: 2, Phase: 1, Until: 14}, {Id: 3, Phase: 2}, {Id: 4, Phase: 3}, {Id: 5, Phase: 9}},
		Insts:    []api.Inst{{Id: 1, Mult: 10, Moves: []int64{2, -3}}, {Id: 2, Mult: 1}},
		Assets:   []api.Asset{{Id: 1, Price: 3, Haircut: 1000}},
		Accounts: []api.Account{{Id: 1, Member: 1, Kind: 1}, {Id: 2, Member: 1, Kind: 2, Clients: []int{1, 2}}, {Id: 3, Member: 2, Kind: 3, Clients: []int{4, 5}}, {Id: 4, Member: 1, Kind: 4}, {Id: 5, Member: 5, Kind: 7, Clients: []int{1}}},
		Book:     []api.Pos{pos(u(1, 0), 1, 3), pos(u(2, 1), 1, 4), pos(u(2, 2), 1, -4, 2, 1), pos(u(3, 5), 1, -1<<63)},
		Sale:     []api.Pos{pos(u(3, 4), 1, -8, 2, 9)},
		Purse:    []api.Flow{{Unit: u(0, 0), Amount: 70}, {Unit: u(0, 1), Amount: -70}, {Unit: u(2, 1), Amount: -1 << 63}},
		Holds:    []api.Hold{{Unit: u(0, 1), Lots: []api.Lot{{Asset: 1, Qty: 1}}}, {Unit: u(1, 0), Lots: []api.Lot{{Asset: 1, Tag: 3, Qty: 10}, {Asset: 1, Tag: 255, Qty: 7}}}},
	}
}

func says(t *testing.T, got []string, want string) {
	t.Helper()
	var l []string
	for line := range strings.SplitSeq(strings.TrimSpace(want), "\n") {
		if line = strings.TrimSpace(line); line != "" {
			l = append(l, line)
		}
	}
	if !slices.Equal(got, l) {
		t.Errorf("%s\n-- not --\n%s", strings.Join(got, "\n"), strings.Join(l, "\n"))
	}
}

const first = `member 1 active until 0 cap 90 used 12
	account 1 house member 1
	margin 1.0 need 90 excess -45
	unit 1.0 cash 0
	position 1.0 1 3
	lot 1.0 1 3 10
	lot 1.0 1 255 7
	account 2 net member 1
	margin 2.0 need 0 excess -9223372036854775808
	unit 2.1 cash -9223372036854775808
	position 2.1 1 4
	unit 2.2 cash 0
	position 2.2 1 -4
	position 2.2 2 1
	account 4 seg member 1
`

const second = `member 2 window until 14 cap 0 used none
	account 3 gross member 2
	margin 3.4 need 0 excess 0
	margin 3.5 need none excess none
	unit 3.4 cash 0
	sale 3.4 1 -8
	sale 3.4 2 9
	unit 3.5 cash 0
	position 3.5 1 -9223372036854775808
`

const others = `member 3 selling until 0 cap 0 used 0
	member 4 closed until 0 cap 0 used 0
	member 5 ? until 0 cap 0 used 0
	account 5 ? member 5
	margin 5.1 need 0 excess 0
	unit 5.1 cash 0
`

func TestP36_1_P36_2(t *testing.T) {
	s := start()
	says(t, report.Unit(s, u(9, 9)), "unit 9.9 cash 0")
	says(t, report.Unit(s, u(3, 4)), "unit 3.4 cash 0\nsale 3.4 1 -8\nsale 3.4 2 9")
	says(t, report.Unit(s, u(-1, 2)), "unit -1.2 cash 0")
	says(t, report.Unit(api.State{Book: []api.Pos{pos(u(1, 0), 1, 3)}}, u(1, 0)), "unit 1.0 cash 0\nposition 1.0 1 3")
	says(t, report.Account(s, s.Accounts[3]), "account 4 seg member 1")
	says(t, report.Account(api.State{}, api.Account{Id: 7, Member: 8, Kind: 2}), "account 7 net member 8\nmargin 7.0 need 0 excess 0")
	s.Purse[0].Amount = 0
	says(t, report.Account(s, s.Accounts[0]), "account 1 house member 1\nmargin 1.0 need 90 excess none\nunit 1.0 cash 0\nposition 1.0 1 3\nlot 1.0 1 3 10\nlot 1.0 1 255 7")
}

func TestP36_3(t *testing.T) {
	s := start()
	says(t, report.Member(s, 1), first)
	says(t, report.Member(s, 2), second)
	if len(report.Member(s, 6)) > 0 || len(report.Member(s, 0)) > 0 {
		t.Error("no such member")
	}
	says(t, report.All(s), "day 12\nunit 0.0 cash 70\nunit 0.1 cash -70\nlot 0.1 1 0 1\n"+first+second+others)
	says(t, report.All(api.State{}), "day 0\nunit 0.0 cash 0\nunit 0.1 cash 0")
}

func TestP36_4(t *testing.T) {
	s := start()
	lines := report.All(s)
	for _, x := range units.All(s.Accounts) {
		n := 0
		for _, l := range lines {
			if strings.HasPrefix(l, fmt.Sprintf("unit %d.%d ", x.Account, x.Client)) {
				n++
			}
		}
		if n != 1 {
			t.Error("unit", x, n)
		}
	}
}
