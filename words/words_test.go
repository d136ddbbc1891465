package words_test

import (
	"fmt"
	"strings"
	"testing"

	"novation/api"
	"novation/cmd"
	"novation/words"
)

// same tells whether two things are alike: none and nothing are one.
func same(a, b any) bool { return fmt.Sprintf("%d", a) == fmt.Sprintf("%d", b) }

const least, most = -1 << 63, 1<<63 - 1

// lines are commands' lines, one of each Op at least.
var lines = []string{
	"member 0 1 9", "inst 0 1 10 7 2 -3", "inst 8 8 -9223372036854775808 9223372036854775807", "asset 0 4 0 -1", "account 3 1.0 2 1048576", "bind 1 16.16", "cap 0 8 0",
	"trade 0 2.1 3.0 1 4 6", "give 1 0.0 0.0 0 0 0", "accept 2 0", "reject 2 7", "cancel 2 1048576", "block 0 2.1 1 3 10 4 11", "block 0 2.1 1", "alloc 0 1 4.1 -5", "mark 0 1 5", "value 0 1 5",
	"day 0", "day 8", "deposit 0 0.0 0 255 5", "withdraw 1 2.1 4 0 -5", "elect 1 2.1 4.2", "consent 2 2.1 4.2", "default 0 1 3", "port 0 2.1", "liquidate 0 1", "fill 0 2.1 3.0 1 -4 6", "close 0 0",
	"position 1 2.1", "cash 1 0.1", "need 1 2.0", "excess 1 2.0", "calls 0", "phase 0 1",
}

const none = `
member|member 0|member 0 1|member 0 1 9 9|member  0 1 9|member 0 1 9 | member 0 1 9|member 0 1 09|member 0 1 -0|member 0 1 +9|member 0 01 9|member 9 1 9|member -1 1 9|member 0 9 1|member 0 -1 1
Member 0 1 9|members 0 1 9|member 0 1 9.0|member 0 1.0 9|member 0 1 x|member 0 1 9223372036854775808|member 0 1 -9223372036854775809|member 0 1 |member 0  9
bind 0 2|bind 0 2.1.3|bind 0 2.|bind 0 .1|bind 0 2.01|bind 0 17.1|bind 0 1.17|bind 0 -1.1|bind 0 .|bind 0 2,1|day|day 0 0|day 00|calls 0 1|inst 0 9 1 1|asset 0 5 1 1|accept 0 1048577|deposit 0 1.1 1 256 1
block 0 2.1 1 1 1 1 1 1 1 1 1 1 1 1 1 1 1 1 1 1 1 1 1 1 1 1 1 1 1 1 1 1 1 1 1 1 1|block 0 2.1 1 x|inst 0 1 1 1 |ok|power|fuse 0|compact| |x`

func TestP40_1(t *testing.T) {
	names := strings.Fields("member inst asset account bind cap trade give accept reject cancel block alloc mark value day deposit withdraw elect consent default port liquidate fill close position cash need excess calls phase")
	if len(names) != 31 {
		t.Fatal("words")
	}
	for i, w := range names {
		if words.Word(i+1) != w || words.Op(w) != i+1 {
			t.Error(w, words.Word(i+1), words.Op(w))
		}
	}
	for _, op := range []int{0, -1, 32, least, most} {
		if words.Word(op) != "" {
			t.Error("Word", op)
		}
	}
	for _, w := range []string{"", " ", "Member", "member ", "fuse", "member inst"} {
		if words.Op(w) != 0 {
			t.Error("Op", w)
		}
	}
}

func TestP40_2(t *testing.T) {
	c := api.Command{Op: api.OpTrade, Unit: api.Unit{Account: 2, Client: 1}, Other: api.Unit{Account: 3}, Inst: 1, Qty: 4, Price: 6}
	if s, e := words.Line(c); s != "trade 0 2.1 3.0 1 4 6" || e != api.OK {
		t.Error("Line", s, e)
	}
	if x, e := words.Parse("trade 0 2.1 3.0 1 4 6"); e != api.OK || !same(x, c) {
		t.Error("Parse", x, e)
	}
	c = api.Command{Op: api.OpBlock, By: 3, Unit: api.Unit{Account: 2, Client: 1}, Inst: 4, Numbers: []int64{least, most, 0}}
	if x, e := words.Parse("block 3 2.1 4 -9223372036854775808 9223372036854775807 0"); e != api.OK || !same(x, c) {
		t.Error("Parse", x, e)
	}
	for _, s := range lines {
		x, e := words.Parse(s)
		if e != api.OK || cmd.Check(x) != api.OK || words.Word(x.Op) != strings.Fields(s)[0] {
			t.Error("Parse", s, x, e)
		}
	}
	for _, s := range append(strings.Split(strings.ReplaceAll(none, "\n", "|"), "|"), "day 0\n", "day\t0") {
		if x, e := words.Parse(s); e != api.ErrForm || !same(x, api.Command{}) {
			t.Errorf("Parse %q: %v %d", s, x, e)
		}
	}
	for _, c := range []api.Command{{}, {Op: 32}, {Op: 16, By: 9}, {Op: 16, Qty: 1}, {Op: 5, Unit: api.Unit{Account: 17}}} {
		if s, e := words.Line(c); s != "" || e != api.ErrForm {
			t.Error("Line", c, s, e)
		}
	}
}

func TestP40_3(t *testing.T) {
	u, v := api.Unit{Account: 1, Client: 2}, api.Unit{Client: 1}
	for want, r := range map[string]api.Reply{
		"ok": {}, "error 14": {Err: api.ErrAuth}, "ok 1 -2": {Numbers: []int64{1, -2}}, "error -3 7": {Err: -3, Numbers: []int64{7}},
		"ok 5 debit 1.2 0.1 6 debit 0.1 1.2 -7 return 1.2 8 lot 1 2 3 lot 4 5 6 return 0.1 0": {
			Numbers: []int64{5}, Debits: []api.Debit{{By: u, For: v, Amount: 6}, {By: v, For: u, Amount: -7}},
			Returns: []api.Return{{Unit: u, Cash: 8, Lots: []api.Lot{{Asset: 1, Tag: 2, Qty: 3}, {Asset: 4, Tag: 5, Qty: 6}}}, {Unit: v}},
		},
	} {
		if s := words.Reply(r); s != want {
			t.Error("Reply", s)
		}
	}
}

func TestP40_4(t *testing.T) {
	day, _ := cmd.Encode(api.Command{Op: api.OpDay})
	for s, x := range map[string]api.Entry{
		"day 0": {Kind: 1, Bytes: day}, "fuse 0 1 2": {Kind: 2, Keep: []int{1, 2}}, "fuse 1048576": {Kind: 2, N: 1 << 20}, "fuse 3 254 0 0": {Kind: 2, N: 3, Keep: []int{254, 0, 0}}, "power": {Kind: 3}, "compact": {Kind: 4},
	} {
		if y, e := words.ParseEntry(s); e != api.OK || !same(x, y) {
			t.Error("ParseEntry", s, y, e)
		}
		if w, e := words.Entry(x); w != s || e != api.OK {
			t.Error("Entry", x, w, e)
		}
	}
	for _, x := range []api.Entry{
		{}, {Kind: 5}, {Kind: -1}, {Kind: 1}, {Kind: 1, Bytes: []byte{32}}, {Kind: 1, Bytes: append(day, 0)}, {Bytes: day},
	} {
		if s, e := words.Entry(x); s != "" || e != api.ErrForm {
			t.Error("Entry", x, s, e)
		}
	}
	for _, s := range []string{"", "fuse", "fuse ", "fuse x", "fuse 0 ", "fuse  0", "fuse 00", "fuse 0 x", "fuse 0 1.2", "fuse -0", "fuse 9223372036854775808", "power ", "power 1", " power", "compact 0", "Compact", "day", "day 0 ", "entry"} {
		if x, e := words.ParseEntry(s); e != api.ErrForm || !same(x, api.Entry{}) {
			t.Error("ParseEntry", s, x, e)
		}
	}
}

func TestP40_5_Entries(t *testing.T) {
	day, _ := cmd.Encode(api.Command{Op: api.OpDay})
	for _, x := range []api.Entry{
		{Kind: 1, Bytes: day, N: 1}, {Kind: 1, Bytes: day, Keep: []int{1}}, {Kind: 2, Bytes: day}, {Kind: 2, N: -1}, {Kind: 2, N: most, Keep: []int{least, 255}},
		{Kind: 3, N: 1}, {Kind: 3, Bytes: day}, {Kind: 4, Keep: []int{0}}, {Kind: 4, N: 1},
	} {
		s, e := words.Entry(x)
		if e != api.OK {
			continue
		}
		if y, e := words.ParseEntry(s); e != api.OK || !same(x, y) {
			t.Error("there and back", x, s, y, e)
		}
	}
}

func TestP40_5(t *testing.T) {
	seen := map[string]int{}
	for i, s := range lines {
		c, _ := words.Parse(s)
		w, e := words.Line(c)
		if w != s || e != api.OK {
			t.Error("there and back", s, w, e)
		}
		b, _ := cmd.Encode(c)
		if j, ok := seen[string(b)]; ok {
			t.Error("a line of another one", i, j)
		}
		seen[string(b)] = i
		x, e := words.ParseEntry(s)
		if y, f := words.Entry(x); e != api.OK || f != api.OK || y != s || string(x.Bytes) != string(b) {
			t.Error("an entry there and back", s, y)
		}
		for k := range len(s) {
			for _, c := range []byte{' ', '0', '1', '.', '-', 'a'} {
				d := s[:k] + string(rune(c)) + s[k+1:]
				if x, e := words.Parse(d); e == api.OK {
					if w, f := words.Line(x); f != api.OK || w != d {
						t.Error("changed", d, w)
					}
				}
			}
		}
	}
}
