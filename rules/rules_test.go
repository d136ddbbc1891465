package rules_test

import (
	"fmt"
	"slices"
	"strconv"
	"strings"
	"testing"

	"novation/api"
	"novation/book"
	"novation/cmd"
	"novation/hold"
	"novation/ledger"
	"novation/purse"
	"novation/rules"
	"novation/wide"
)

const names = "member inst asset account bind cap trade give accept reject cancel block alloc mark value day deposit withdraw elect consent default port liquidate fill close position cash need excess calls phase"

// parse answers the command that a line of words is: its Op's word, who commands, its fields.
func parse(s string) api.Command {
	w := strings.Fields(s)
	number := func() int64 {
		n, e := strconv.ParseInt(w[0], 10, 64)
		if e != nil {
			panic(s)
		}
		w = w[1:]
		return n
	}
	unit := func() api.Unit {
		a, b, _ := strings.Cut(w[0], ".")
		w = append([]string{a, b}, w[1:]...)
		return api.Unit{Account: int(number()), Client: int(number())}
	}
	c := api.Command{Op: slices.Index(strings.Fields(names), w[0]) + 1}
	w = w[1:]
	c.By = int(number())
	for _, f := range cmd.Fields(c.Op) {
		switch f {
		case 'M':
			c.Member = int(number())
		case 'U':
			c.Unit = unit()
		case 'O':
			c.Other = unit()
		case 'I':
			c.Inst = int(number())
		case 'A':
			c.Asset = int(number())
		case 'T':
			c.Tag = int(number())
		case 'D':
			c.Id = int(number())
		case 'Q':
			c.Qty = number()
		case 'P':
			c.Price = number()
		case 'N':
			for len(w) > 0 {
				c.Numbers = append(c.Numbers, number())
			}
		}
	}
	if len(w) > 0 || c.Op == 0 {
		panic(s)
	}
	return c
}

func said(r api.Reply) string {
	if r.Err != api.OK {
		return "error " + strconv.Itoa(int(r.Err))
	}
	out := "ok"
	for _, n := range r.Numbers {
		out += fmt.Sprint(" ", n)
	}
	for _, d := range r.Debits {
		out += fmt.Sprintf(" debit %d.%d %d.%d %d", d.By.Account, d.By.Client, d.For.Account, d.For.Client, d.Amount)
	}
	for _, x := range r.Returns {
		out += fmt.Sprintf(" return %d.%d %d", x.Unit.Account, x.Unit.Client, x.Cash)
		for _, l := range x.Lots {
			out += fmt.Sprintf(" lot %d %d %d", l.Asset, l.Tag, l.Qty)
		}
	}
	return out
}

// play does lines of "command: what it is answered", one behind the other, and tells where one is answered otherwise.
func play(t *testing.T, s api.State, text string) api.State {
	t.Helper()
	for line := range strings.SplitSeq(strings.TrimSpace(text), "\n") {
		what, want, ok := strings.Cut(strings.TrimSpace(line), ":")
		if !ok {
			want = "ok"
		}
		c := parse(what)
		before := ledger.Clone(s)
		x, r := rules.Apply(s, c)
		if said(r) != strings.TrimSpace(want) {
			t.Errorf("%s: %s", line, said(r))
		}
		if !ledger.Same(before, s) {
			t.Fatal("what was handed in is changed", line)
		}
		if (r.Err != api.OK || !rules.Changes(c.Op)) && !ledger.Same(x, s) {
			t.Error("changes something", line)
		}
		if e := ledger.Check(x); e != api.OK {
			t.Error("no ledger any more", line)
		}
		s = x
	}
	return s
}

// base is a clearing house: members 1 to 3, with a house and a clients' account each; instruments 1 (10 a point) and 2; assets 1 and 2.
const base = `member 0 1 1000
member 0 2 1000
member 0 3 50
inst 0 1 10 7 2 -3
inst 0 2 1 100
asset 0 1 3 1000
asset 0 2 1 0
account 0 1.0 1 1
account 0 2.0 1 2
account 0 3.0 2 1
account 0 4.0 2 3
account 0 5.0 3 1
account 0 6.0 3 4
bind 1 2.1
bind 1 2.2
bind 2 4.1
bind 2 4.2
bind 3 6.5`

func TestChanges(t *testing.T) {
	for op := -2; op < 40; op++ {
		if rules.Changes(op) != (op >= 1 && op <= 25) {
			t.Error(op)
		}
	}
}

func TestP35_1_Rules(t *testing.T) {
	s := play(t, api.State{}, `member 0 1 9
		member 0 1 9: error 12
		member 1 1 9: error 14`)
	s = play(t, api.State{}, base+`
		day 4: error 14
		day 1: error 14
		position 2 3.0
		default 0 2 3
		position 2 3.0: error 15
		day 2: error 15`)
	for _, c := range []api.Command{{}, {Op: 32}, {Op: 16, By: 9}, {Op: 16, Qty: 1}, {Op: 16, By: 4, Qty: 1}} {
		if x, r := rules.Apply(s, c); said(r) != "error 3" || !ledger.Same(x, s) {
			t.Error(c, r)
		}
	}
	if x, _ := rules.Apply(s, parse("cash 0 1.0")); !ledger.Same(x, s) {
		t.Error("asked, and changed")
	}
}

func TestP35_1_Memory(t *testing.T) {
	s := play(t, api.State{}, base)
	for _, line := range []string{"day 0", "day 1", "trade 0 2.1 4.1 1 3 7", "inst 0 3 1 1 5", "cash 0 1.0"} {
		before, c := ledger.Clone(s), parse(line)
		x, _ := rules.Apply(s, c)
		x.Members[0].Cap, x.Insts[0].Moves[0], x.Assets[0].Price, x.Accounts[1].Clients = 77, 77, 77, nil
		if len(x.Insts) > 2 {
			x.Insts[2].Moves[0] = 77
		}
		if !ledger.Same(s, before) || len(c.Numbers) > 0 && c.Numbers[0] != 5 {
			t.Error("shared", line)
		}
	}
}

func TestP35_1_Whose(t *testing.T) {
	s := play(t, api.State{}, base)
	for _, line := range []string{"member %d 8 1", "inst %d 8 1 1", "asset %d 4 1 1", "account %d 9.0 1 1", "cap %d 1 9", "mark %d 1 5", "value %d 1 5", "day %d", "default %d 1 3", "port %d 2.1", "liquidate %d 1", "fill %d 2.1 3.0 1 1 1", "close %d 1", "calls %d"} {
		play(t, s, fmt.Sprintf(line, 1)+": error 14")
	}
	s = play(t, s, `trade 3 2.1 4.1 1 1 7: error 14
		trade 1 2.1 4.1 1 1 7
		trade 2 2.1 4.1 1 1 7
		trade 0 2.1 4.1 1 1 7
		bind 2 2.3: error 14
		bind 1 9.3: error 14
		need 2 2.0: error 14
		need 1 2.0: ok 90
		excess 2 2.0: error 14
		excess 1 2.0: ok -90
		give 2 2.1 4.1 1 1 7: error 14
		give 1 2.1 4.1 1 1 7: ok 1
		accept 1 1: error 14
		reject 1 1: error 14
		cancel 2 1: error 14
		accept 2 2: error 14
		cancel 2 2: error 14
		accept 2 1
		give 1 2.1 4.1 1 1 7: ok 2
		cancel 1 2
		block 2 2.1 1 1 7: error 14
		block 1 2.1 1 1 7: ok 1 7 0
		alloc 2 1 4.1 1: error 14
		alloc 1 2 4.1 1: error 14
		alloc 1 1 4.1 1: ok 3
		reject 2 3
		deposit 2 2.1 0 0 5: error 14
		deposit 1 0.0 0 0 5: error 14
		deposit 1 2.1 0 0 5
		withdraw 2 2.1 0 0 5: error 14
		elect 2 2.1 4.2: error 14
		elect 1 2.1 4.2
		consent 1 2.1 4.2: error 14
		consent 2 2.1 4.2
		position 2 2.1: error 14
		position 1 2.1: ok 1 2
		cash 2 2.1: error 14
		cash 1 9.9: error 14
		cash 1 2.1: ok 5
		phase 2 1: error 14
		phase 1 1: ok 0 0 2`)
}

func TestP35_1_Tables(t *testing.T) {
	s := play(t, api.State{}, base)
	play(t, s, `member 0 0 9: error 2
		member 0 8 -1: error 2
		member 0 8 4611686018427387904
		member 0 7 4611686018427387905: error 2
		inst 0 1 1 5: error 12
		inst 0 3 0 5: error 2
		inst 0 3 65536 2147483647 1 2 3 4 5 6 7 8
		inst 0 4 1 1 1 2 3 4 5 6 7 8 9: error 2
		asset 0 1 9 9: error 12
		asset 0 3 9 10001: error 2
		asset 0 3 0 10000
		account 0 9.1 7 9: error 2
		account 0 9.0 0 9: error 11
		account 0 9.0 8 9: error 2
		account 0 1.0 8 1: error 12
		account 0 16.0 8 2
		bind 0 9.1: error 11
		bind 0 1.1: error 17
		bind 0 2.0: error 2
		bind 0 2.1: error 12
		bind 0 6.1: error 10
		bind 0 2.16
		cap 0 6 5: error 11
		cap 0 1 -1: error 2
		cap 0 1 0`)
	x := play(t, s, `default 0 1 0
		account 0 9.0 1 9: error 15
		bind 0 9.3: error 11
		bind 0 2.3: error 15
		bind 0 1.3: error 15
		cap 0 1 77`)
	if x.Members[0] != (api.Member{Id: 1, Cap: 77, Phase: 1}) || x.Insts[0].Price != 7 || x.Insts[0].Next != 7 || !slices.Equal(x.Insts[0].Moves, []int64{2, -3}) {
		t.Error(x.Members, x.Insts)
	}
	if x.Assets[0] != (api.Asset{Id: 1, Price: 3, Haircut: 1000}) {
		t.Error(x.Assets)
	}
}

func TestP35_1_Trade(t *testing.T) {
	s := play(t, api.State{}, base)
	x := play(t, s, `trade 0 2.1 4.1 1 3 5
		cash 0 2.1: ok 60
		cash 0 4.1: ok -60
		position 0 2.1: ok 1 3
		position 0 4.1: ok 1 -3
		position 0 2.2: ok
		trade 0 9.1 9.2 9 0 -1: error 3
		trade 0 9.1 9.2 8 0 -1: error 11
		trade 0 2.1 9.2 8 0 -1: error 11
		trade 0 2.1 4.1 8 0 -1: error 11
		trade 0 2.1 4.1 1 -1 7: error 2
		trade 0 2.1 4.1 1 -9223372036854775808 7: error 2
		trade 0 2.1 4.1 1 0 -1: error 2
		trade 0 2.1 2.1 1 1 -1: error 2
		trade 0 2.1 2.1 1 1099511627777 1: error 2
		trade 0 2.1 2.1 1 1 1: error 24
		trade 0 2.1 2.2 1 1099511627776 2147483647: error 7
		trade 0 6.5 4.1 1 51 7: error 16
		trade 0 4.1 6.5 1 51 7: error 16
		trade 0 6.5 4.1 1 50 7
		trade 0 4.1 6.5 1 50 7
		phase 0 3: ok 0 0 0`)
	play(t, x, `default 0 3 0
		trade 0 6.5 9.1 1 1 7: error 15
		trade 0 9.1 6.5 1 1 7: error 11
		trade 0 4.1 6.5 9 1 7: error 3
		trade 0 4.1 6.5 8 0 7: error 15`)
	play(t, x, `cap 0 1 2
		trade 0 2.1 4.1 1 1 7: error 16
		trade 0 4.1 2.1 1 1 7`)
	for client := 1; client < 3; client++ {
		x.Book = append(x.Book[:client-1], api.Pos{Unit: api.Unit{Account: 2, Client: client}, Legs: []api.Leg{{Inst: 1, Qty: 1 << 62}}})
	}
	play(t, x, `trade 0 2.1 4.1 1 1 7: error 7
		trade 0 4.1 2.1 1 1 7: error 16`)
}

func TestP35_1_Give(t *testing.T) {
	s := play(t, api.State{}, base)
	x := play(t, s, `give 0 9.1 9.2 8 0 -1: error 11
		give 0 2.1 9.2 8 0 -1: error 11
		give 0 2.1 2.1 8 0 -1: error 11
		give 0 2.1 2.1 1 0 -1: error 2
		give 0 2.1 2.1 1 1099511627777 1: error 2
		give 0 2.1 2.1 1 -1099511627777 1: error 2
		give 0 2.1 2.1 1 1 2147483648: error 2
		give 0 2.1 2.1 1 0 1: error 24
		give 0 2.1 4.1 1 0 1: error 2
		give 0 2.1 4.1 1 -4 5: ok 1
		give 0 4.1 6.5 1 51 7: ok 2
		accept 0 0: error 11
		accept 0 3: error 11
		accept 0 1
		position 0 2.1: ok 1 4
		cash 0 2.1: ok 80
		accept 0 1: error 13
		reject 0 1: error 13
		cancel 0 1: error 13
		accept 0 2: error 16
		reject 0 2
		cancel 0 2: error 13
		reject 0 9: error 11
		cancel 0 9: error 11
		give 0 6.5 4.1 1 51 7: ok 3
		accept 0 3: error 16
		give 0 2.2 4.2 1 1 2147483647: ok 4
		accept 0 4`)
	play(t, x, `give 0 2.1 4.1 1 1099511627776 0: ok 5
		give 0 2.1 4.1 1 -1099511627776 2147483647: ok 6`)
	y := play(t, x, `default 0 3 0
		accept 0 3: error 15
		give 0 4.1 6.5 1 1 1: error 15
		give 0 6.5 4.1 1 1 1: error 15`)
	for i, want := range []int{2, 3, 4, 2} {
		if y.Gives[i].State != want {
			t.Error("give-up", i+1, y.Gives[i])
		}
	}
	for range 60 {
		x = play(t, x, fmt.Sprintf("give 0 2.1 4.1 1 1 1: ok %d", len(x.Gives)+1))
	}
	play(t, x, `give 0 2.1 4.1 1 1 1: error 25
		give 0 2.1 2.1 1 1 1: error 24`)
}

func TestP35_1_Block(t *testing.T) {
	s := play(t, api.State{}, base)
	s = play(t, s, `block 0 9.1 8: error 11
		block 0 2.1 8: error 11
		block 0 2.1 1: error 2
		block 0 2.1 1 5: error 2
		block 0 2.1 1 5 6 7: error 2
		block 0 2.1 1 5 6 -5 6: error 2
		block 0 2.1 1 1099511627776 6 1 6: error 25
		block 0 2.1 1 3 10 4 11: ok 1 10 40
		cash 0 2.1: ok 40
		cash 0 0.1: ok -40
		position 0 2.1: ok
		block 0 2.2 1 -3 10 -4 11: ok 2 10 -40
		cash 0 2.2: ok -40
		cash 0 0.1: ok 0
		alloc 0 3 9.9 0: error 11
		alloc 0 1 9.9 0: error 11
		alloc 0 1 4.1 0: error 2
		alloc 0 1 4.1 -1: error 2
		alloc 0 1 4.1 8: error 23
		alloc 0 1 2.1 1: error 24
		alloc 0 1 4.1 5: ok 1
		alloc 0 1 4.2 2: ok 2
		alloc 0 2 4.1 -7: ok 3
		reject 0 1
		alloc 0 1 4.1 4: ok 4
		cancel 0 2
		accept 0 3
		position 0 4.1: ok 1 -7
		cash 0 4.1: ok 210
		alloc 0 1 4.1 3: ok 5`)
	if s.Groups[0].Left != 0 || s.Groups[1].Left != 0 || s.Groups[0].Unit.Client != 1 || s.Groups[0].Price != 10 || s.Groups[0].Inst != 1 {
		t.Error(s.Groups)
	}
	if g := s.Gives[2]; g != (api.Give{Id: 3, From: api.Unit{Account: 2, Client: 2}, To: api.Unit{Account: 4, Client: 1}, Leg: api.Leg{Inst: 1, Qty: -7}, Price: 10, Group: 2, Day: 8, State: 2}) {
		t.Error(g)
	}
	x := play(t, s, `default 0 2 0
		alloc 0 1 4.1 1: error 15`)
	if x.Groups[0].Left != 7 || x.Gives[3].State != 4 || x.Gives[4].State != 4 {
		t.Error("what was allocated is left again", x.Groups, x.Gives)
	}
	play(t, s, `default 0 1 0
		block 0 2.1 1 3 10: error 15
		alloc 0 1 9.9 0: error 15`)
	for range 62 {
		s, _ = rules.Apply(s, parse("block 0 2.1 1 1 1"))
	}
	play(t, s, `block 0 2.1 1 1 1: error 25`)
}

func TestP35_1_Day(t *testing.T) {
	s := play(t, api.State{}, base+`
		trade 0 2.1 4.1 1 3 7
		trade 0 6.5 4.2 2 5 100
		mark 0 9 5: error 3
		mark 0 8 5: error 11
		mark 0 1 -1: error 2
		mark 0 1 9
		mark 0 2 90
		value 0 4 5: error 11
		value 0 1 -1: error 2
		value 0 1 5
		block 0 2.1 1 3 10: ok 1 10 0
		alloc 0 1 4.1 2: ok 1
		give 0 2.1 4.1 1 1 1: ok 2
		default 0 3 0
		day 0: ok 1
		liquidate 0 3
		cash 0 2.1: ok 60
		cash 0 4.1: ok -60
		cash 0 6.5: ok -50
		cash 0 4.2: ok 50
		mark 0 2 80
		day 0: ok 2
		cash 0 6.5: ok -100
		cash 0 4.2: ok 100
		cash 0 2.1: ok 60`)
	if s.Insts[0].Price != 9 || s.Insts[1].Price != 80 || s.Assets[0].Price != 5 || len(s.Sale) != 1 {
		t.Error(s.Insts, s.Assets, s.Sale)
	}
	for day := 3; day <= 8; day++ {
		s = play(t, s, fmt.Sprintf("day 0: ok %d", day))
	}
	if s.Gives[0].State != 1 || s.Gives[1].State != 1 || s.Groups[0].Left != 1 {
		t.Error("the last day", s.Gives)
	}
	s = play(t, s, "day 0: ok 9")
	if s.Gives[0].State != 5 || s.Gives[1].State != 5 || s.Groups[0].Left != 3 {
		t.Error("expired", s.Gives)
	}
	s.Day = 1 << 20
	play(t, s, "day 0: error 25")
	s.Day--
	play(t, s, "day 0: ok 1048576")
	s.Purse, _ = purse.Pay(nil, api.Flow{Unit: api.Unit{Account: 2, Client: 1}, Amount: 1<<63 - 1})
	play(t, s, "mark 0 1 10\nday 0: error 7")
}

func TestP35_1_Cash(t *testing.T) {
	s := play(t, api.State{}, base+`
		deposit 0 9.9 0 0 0: error 11
		deposit 0 0.1 0 0 5: error 11
		deposit 0 2.1 0 0 0: error 2
		deposit 0 2.1 4 0 0: error 2
		deposit 0 2.1 0 1 5: error 2
		deposit 0 2.1 4 1 5: error 11
		deposit 0 2.1 0 0 9223372036854775807
		deposit 0 2.1 0 0 1: error 7
		withdraw 0 2.1 0 0 9223372036854775800
		deposit 0 2.1 1 3 10
		deposit 0 2.1 1 3 9223372036854775807: error 7
		deposit 0 0.0 0 0 5
		deposit 0 0.0 2 7 6
		cash 0 0.0: ok 5
		excess 0 2.0: ok 34
		withdraw 0 0.0 0 0 1: error 11
		withdraw 0 9.9 0 0 0: error 11
		withdraw 0 2.1 0 0 0: error 2
		withdraw 0 2.1 0 1 1: error 2
		withdraw 0 2.1 0 0 8: error 23
		withdraw 0 2.1 1 2 1: error 23
		withdraw 0 2.1 4 0 1: error 23
		withdraw 0 2.1 1 3 11: error 23
		trade 0 2.1 4.1 1 1 7
		excess 0 2.0: ok 4
		withdraw 0 2.1 0 0 5: error 22
		withdraw 0 2.1 1 3 2: error 22
		withdraw 0 2.1 1 3 1
		withdraw 0 2.1 0 0 2: error 22
		withdraw 0 2.1 0 0 1
		excess 0 2.0: ok 0
		trade 0 2.2 4.2 1 1 7
		deposit 0 2.2 0 0 40
		withdraw 0 2.2 0 0 11: error 22
		withdraw 0 2.2 0 0 10
		withdraw 0 4.1 0 0 1: error 23
		deposit 0 6.5 0 0 3
		withdraw 0 6.5 0 0 3
		cash 0 6.5: ok 0`)
	for tag := range 15 {
		s = play(t, s, fmt.Sprintf("deposit 0 2.1 2 %d 1", tag))
	}
	play(t, s, `deposit 0 2.1 2 15 1: error 25
		default 0 1 0
		deposit 0 2.1 0 0 5: error 15
		withdraw 0 2.1 0 0 5: error 15`)
	s.Purse = []api.Flow{{Unit: api.Unit{Account: 2, Client: 1}, Amount: 90}, {Unit: api.Unit{Account: 2, Client: 2}, Amount: 1<<63 - 1}}
	play(t, s, "withdraw 0 2.1 0 0 1: error 7")
}

func TestP35_1_Elect(t *testing.T) {
	s := play(t, api.State{}, base)
	s = play(t, s, `elect 0 9.9 9.9: error 11
		elect 0 1.0 9.9: error 17
		elect 0 2.1 9.9: error 11
		elect 0 2.1 3.0: error 17
		elect 0 2.1 2.1: error 24
		elect 0 2.1 4.2
		consent 0 2.1 9.9: error 11
		consent 0 2.2 4.2: error 19
		consent 0 2.1 4.1: error 11
		consent 0 2.1 4.2
		port 0 2.1: error 18
		port 0 9.9: error 11
		port 0 3.0: error 17
		default 0 9 0: error 3
		default 0 8 17: error 11
		default 0 1 17: error 2
		default 0 1 -1: error 2
		trade 0 2.1 4.1 1 3 7
		deposit 0 2.1 2 9 4
		default 0 1 2
		default 0 1 2: error 13
		default 0 3 16
		phase 0 3: ok 1 16 0
		elect 0 2.2 4.1
		port 0 2.2: error 20
		consent 0 2.2 4.1
		port 0 2.2: error 21
		day 0: ok 1
		day 0: ok 2
		liquidate 0 1: error 18
		port 0 2.1: ok 4 2
		port 0 2.1: error 19
		position 0 4.2: ok 1 3
		position 0 2.1: ok
		phase 0 1: ok 1 2 0
		day 0: ok 3
		port 0 2.2: error 18
		liquidate 0 8: error 11
		liquidate 0 2: error 13
		liquidate 0 1
		elect 0 2.2 4.1: error 13
		consent 0 2.2 4.1
		phase 0 1: ok 2 2 0`)
	if len(hold.Lots(s.Holds, api.Unit{Account: 4, Client: 2})) != 1 {
		t.Error(s.Holds)
	}
	play(t, s, `default 0 2 0
		consent 0 2.2 4.1: error 15`)
}

func TestP35_1_Close(t *testing.T) {
	s := play(t, api.State{}, base)
	s = play(t, s, `deposit 0 2.1 0 0 20
		deposit 0 2.2 1 4 10
		deposit 0 1.0 2 0 7
		deposit 0 0.0 0 0 100
		trade 0 2.1 4.1 1 5 7
		trade 0 4.2 2.2 1 2 7
		close 0 8: error 11
		close 0 1: error 13
		fill 0 9.9 5.0 1 1 7: error 11
		fill 0 2.1 5.0 1 1 7: error 13
		default 0 1 0
		fill 0 2.1 5.0 1 1 7: error 13
		close 0 1: error 13
		day 0: ok 1
		liquidate 0 1
		position 0 2.1: ok
		close 0 1: error 21
		fill 0 2.1 5.0 1 6 7: error 23
		fill 0 2.1 9.0 1 5 7: error 11
		fill 0 2.1 6.5 1 5 7: error 17
		fill 0 2.1 1.0 1 5 7: error 15
		fill 0 2.1 5.0 8 5 7: error 11
		fill 0 2.1 5.0 1 0 7: error 2
		cap 0 3 4
		fill 0 2.1 5.0 1 5 7: error 16
		cap 0 3 50
		fill 0 2.1 5.0 1 5 4
		close 0 1: error 21
		fill 0 2.2 3.0 1 -2 7
		cash 0 2.1: ok -130
		cash 0 5.0: ok 150
		close 0 1: ok debit 2.2 2.1 30 debit 1.0 2.1 7 debit 0.0 2.1 93
		cash 0 2.1: ok 0
		cash 0 0.0: ok 7
		cash 0 0.1: ok -37
		phase 0 1: ok 3 0 0
		close 0 1: error 13
		default 0 3 0
		day 0: ok 2
		liquidate 0 3
		fill 0 5.0 3.0 1 5 7
		close 0 3: ok return 5.0 150`)
	if s.Members[0].Phase != 3 || len(s.Sale) != 0 || !book.Balanced(s.Book) {
		t.Error(s)
	}
	s = play(t, s, `default 0 2 0
		day 0: ok 3
		liquidate 0 2
		close 0 2: error 21`)
	s.Holds = append(s.Holds, api.Hold{Unit: api.Unit{Account: 6, Client: 5}, Lots: []api.Lot{{Asset: 1, Tag: 3, Qty: 4}}})
	s.Members[2].Phase = 2
	play(t, s, "close 0 3: ok return 6.5 0 lot 1 3 4")
}

func TestP35_1_Ask(t *testing.T) {
	s := play(t, api.State{}, base)
	s = play(t, s, `trade 0 2.1 4.1 1 3 7
		trade 0 2.2 4.2 2 5 100
		trade 0 4.2 2.2 1 4 7
		position 0 9.9: error 11
		position 0 0.0: error 11
		position 0 2.2: ok 1 -4 2 5
		cash 0 9.9: error 11
		cash 0 0.0: ok 0
		cash 0 0.1: ok 0
		need 0 9.9: error 11
		need 0 2.1: error 11
		need 0 2.0: ok 20
		need 0 4.2: ok 120
		excess 0 9.9: error 11
		excess 0 2.1: error 11
		excess 0 4.2: ok -120
		calls 0: ok 2 0 -20 4 1 -60 4 2 -120
		deposit 0 4.1 0 0 60
		calls 0: ok 2 0 -20 4 2 -120
		phase 0 8: error 11
		phase 0 2: ok 0 0 12
		cap 0 2 1
		position 0 4.2: ok 1 4 2 -5`)
	s.Book = []api.Pos{{Unit: api.Unit{Account: 2, Client: 1}, Legs: []api.Leg{{Inst: 1, Qty: -1 << 63}}}}
	play(t, s, `phase 0 1: error 7
		need 0 2.0: error 7
		excess 0 2.0: error 7
		calls 0: error 7`)
}

// lives makes commands of a short rule, most of which may be done.
type lives struct{ seed uint64 }

func (l *lives) next(n int) int {
	l.seed = l.seed*6364136223846793005 + 1442695040888963407
	return int(l.seed >> 33 % uint64(n))
}

func (l *lives) unit() string {
	return []string{"1.0", "2.1", "2.2", "3.0", "4.1", "4.2", "5.0", "6.5"}[l.next(8)]
}

func (l *lives) line(s api.State) string {
	u, v, n := l.unit(), l.unit(), l.next
	switch n(20) {
	case 0, 1, 2, 3:
		return fmt.Sprintf("trade 0 %s %s %d %d %d", u, v, 1+n(2), 1+n(9), n(120))
	case 4:
		return fmt.Sprintf("give 0 %s %s %d %d %d", u, v, 1+n(2), n(9)-4, n(120))
	case 5, 6:
		return fmt.Sprintf("accept 0 %d", 1+n(30))
	case 7:
		return fmt.Sprintf("%s 0 %d", []string{"reject", "cancel"}[n(2)], 1+n(30))
	case 8:
		return fmt.Sprintf("block 0 %s 1 %d %d %d %d", u, 1+n(9), n(20), 1+n(9), n(20))
	case 9:
		return fmt.Sprintf("alloc 0 %d %s %d", 1+n(9), u, n(9)-2)
	case 10:
		return fmt.Sprintf("mark 0 %d %d", 1+n(2), n(150))
	case 11:
		return "day 0"
	case 12, 13:
		return fmt.Sprintf("deposit 0 %s %d 0 %d", []string{"0.0", u, v}[n(3)], n(3), 1+n(200))
	case 14:
		return fmt.Sprintf("withdraw 0 %s %d 0 %d", u, n(3), 1+n(50))
	case 15:
		return fmt.Sprintf("elect 0 %s %d.%d", u, 2+2*n(2), 1+n(9))
	case 16:
		if len(s.Choices) > 0 {
			c := s.Choices[n(len(s.Choices))]
			u, v = fmt.Sprintf("%d.%d", c.From.Account, c.From.Client), fmt.Sprintf("%d.%d", c.To.Account, c.To.Client)
		}
		return fmt.Sprintf("consent 0 %s %s", u, v)
	case 17:
		return fmt.Sprintf("%s 0 %d", []string{"liquidate", "close", "close"}[n(3)], 1+n(3))
	case 18:
		if n(4) == 0 {
			return fmt.Sprintf("default 0 %d %d", 1+n(3), 2+n(9))
		}
		if len(s.Choices) > 0 {
			from := s.Choices[n(len(s.Choices))].From
			u = fmt.Sprintf("%d.%d", from.Account, from.Client)
		}
		return "port 0 " + u
	}
	if len(s.Sale) == 0 {
		return fmt.Sprintf("fill 0 %s %s %d %d %d", u, v, 1+n(2), n(9)-4, n(120))
	}
	p := s.Sale[n(len(s.Sale))]
	leg := p.Legs[n(len(p.Legs))]
	return fmt.Sprintf("fill 0 %d.%d %s %d %d %d", p.Unit.Account, p.Unit.Client, []string{"1.0", "3.0", "5.0"}[n(3)], leg.Inst, leg.Qty, n(120))
}

func total(s api.State, inst int) wide.Wide {
	w, _ := wide.Add(book.Open(s.Book, inst), book.Open(s.Sale, inst))
	return w
}

func TestP35_2(t *testing.T) {
	done := map[int]int{}
	for seed := range uint64(40) {
		l := &lives{seed + 1}
		s := play(t, api.State{}, base)
		for client := 3; client < 10; client++ {
			s = play(t, s, fmt.Sprintf("bind 0 2.%d\nbind 0 4.%d", client, client))
		}
		var sums [5]wide.Wide
		add := func(asset int, qty int64) { sums[asset], _ = wide.Add(sums[asset], wide.Of(qty)) }
		for range 300 {
			c := parse(l.line(s))
			x, r := rules.Apply(s, c)
			if r.Err != api.OK {
				if !ledger.Same(x, s) {
					t.Fatal("refused, and changed", c)
				}
				continue
			}
			done[c.Op]++
			switch c.Op {
			case api.OpDeposit:
				add(c.Asset, c.Qty)
			case api.OpWithdraw:
				add(c.Asset, -c.Qty)
			}
			for _, b := range r.Returns {
				add(0, -b.Cash)
				for _, lot := range b.Lots {
					add(lot.Asset, -lot.Qty)
				}
			}
			if ledger.Check(x) != api.OK || purse.Total(x.Purse) != sums[0] {
				t.Fatal("cash, or no ledger", c, wide.Text(purse.Total(x.Purse)), wide.Text(sums[0]))
			}
			for i := 1; i < 9; i++ {
				if total(x, i) != (wide.Wide{}) || i < 5 && hold.Total(x.Holds, i) != sums[i] {
					t.Fatal("not balanced", c, i)
				}
			}
			s = x
		}
	}
	for op := api.OpTrade; op <= api.OpClose; op++ {
		if op != api.OpValue && done[op] == 0 {
			t.Error("never done", op)
		}
	}
}
