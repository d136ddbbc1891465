package cmd_test

import (
	"bytes"
	"fmt"
	"strings"
	"testing"

	"novation/api"
	"novation/cmd"
	"novation/pack"
)

// same tells whether two things are alike: none and nothing are one.
func same(a, b any) bool { return fmt.Sprintf("%d", a) == fmt.Sprintf("%d", b) }

const least, most = -1 << 63, 1<<63 - 1

var fields = []string{"", "MQ", "IQPN", "APQ", "UMD", "U", "MQ", "UOIQP", "UOIQP", "D", "D", "D", "UIN", "DOQ", "IP", "AP", "", "UATQ", "UATQ", "UO", "UO", "MQ", "U", "M", "UOIQP", "M", "U", "U", "U", "U", "", "M"}

// edge answers a command of an Op whose fields are as great as they may be, or as small.
func edge(op int, great bool) api.Command {
	c := api.Command{Op: op}
	for _, f := range fields[op] {
		switch f {
		case 'Q':
			c.Qty = least
		case 'P':
			c.Price = least
		}
	}
	if !great {
		return c
	}
	c.By = 8
	for _, f := range fields[op] {
		switch f {
		case 'M':
			c.Member = 8
		case 'U':
			c.Unit = api.Unit{Account: 16, Client: 16}
		case 'O':
			c.Other = api.Unit{Account: 16, Client: 16}
		case 'I':
			c.Inst = 8
		case 'A':
			c.Asset = 4
		case 'T':
			c.Tag = 255
		case 'D':
			c.Id = 1 << 20
		case 'Q':
			c.Qty = most
		case 'P':
			c.Price = most
		case 'N':
			c.Numbers = make([]int64, 32)
			c.Numbers[0], c.Numbers[31] = least, most
		}
	}
	return c
}

// spoils make of a command, by the field that may, one that is none.
func spoils() map[rune][]func(c *api.Command) {
	return map[rune][]func(c *api.Command){
		'M': {func(c *api.Command) { c.Member = 9 }, func(c *api.Command) { c.Member = -1 }},
		'U': {func(c *api.Command) { c.Unit.Account = 17 }, func(c *api.Command) { c.Unit.Client = 17 }, func(c *api.Command) { c.Unit.Account = -1 }, func(c *api.Command) { c.Unit.Client = -1 }},
		'O': {func(c *api.Command) { c.Other.Account = 17 }, func(c *api.Command) { c.Other.Client = 17 }, func(c *api.Command) { c.Other.Account = -1 }, func(c *api.Command) { c.Other.Client = -1 }},
		'I': {func(c *api.Command) { c.Inst = 9 }, func(c *api.Command) { c.Inst = -1 }},
		'A': {func(c *api.Command) { c.Asset = 5 }, func(c *api.Command) { c.Asset = -1 }},
		'T': {func(c *api.Command) { c.Tag = 256 }, func(c *api.Command) { c.Tag = -1 }},
		'D': {func(c *api.Command) { c.Id = 1<<20 + 1 }, func(c *api.Command) { c.Id = -1 }},
		'N': {func(c *api.Command) { c.Numbers = make([]int64, 33) }},
	}
}

// extras give a command something that it has not, unless its fields name it.
var extras = []struct {
	field rune
	give  func(c *api.Command)
}{
	{'M', func(c *api.Command) { c.Member = 1 }}, {'U', func(c *api.Command) { c.Unit.Account = 1 }}, {'U', func(c *api.Command) { c.Unit.Client = 1 }},
	{'O', func(c *api.Command) { c.Other.Account = 1 }}, {'O', func(c *api.Command) { c.Other.Client = 1 }}, {'I', func(c *api.Command) { c.Inst = 1 }},
	{'A', func(c *api.Command) { c.Asset = 1 }}, {'T', func(c *api.Command) { c.Tag = 1 }}, {'D', func(c *api.Command) { c.Id = 1 }},
	{'Q', func(c *api.Command) { c.Qty = 1 }}, {'P', func(c *api.Command) { c.Price = 1 }}, {'N', func(c *api.Command) { c.Numbers = []int64{0} }},
}

func refused(t *testing.T, c api.Command) {
	t.Helper()
	if cmd.Check(c) != api.ErrForm {
		t.Error("is none", c)
	}
	if b, e := cmd.Encode(c); len(b) > 0 || e != api.ErrForm {
		t.Error("Encode", c, b, e)
	}
}

func TestP34_1(t *testing.T) {
	for op, want := range fields {
		if cmd.Fields(op) != want {
			t.Error("Fields", op, cmd.Fields(op))
		}
	}
	if cmd.Fields(32) != "" || cmd.Fields(-1) != "" || cmd.Fields(least) != "" {
		t.Error("Fields of no Op")
	}
	for op := 1; op <= 31; op++ {
		for _, great := range []bool{false, true} {
			if c := edge(op, great); cmd.Check(c) != api.OK {
				t.Error("is one", c)
			}
		}
		for _, f := range fields[op] {
			for _, spoil := range spoils()[f] {
				c := edge(op, true)
				spoil(&c)
				refused(t, c)
			}
		}
		for i, x := range extras {
			c := edge(op, false)
			x.give(&c)
			if strings.ContainsRune(fields[op], x.field) {
				if cmd.Check(c) != api.OK {
					t.Error("has it", op, i)
				}
			} else {
				refused(t, c)
			}
		}
	}
	for _, c := range []api.Command{{}, {Op: -1}, {Op: 32}, {Op: 16, By: -1}, {Op: 16, By: 9}} {
		refused(t, c)
	}
}

func TestP34_2(t *testing.T) {
	if b, e := cmd.Encode(api.Command{Op: api.OpDay}); e != api.OK || !bytes.Equal(b, []byte{32, 0}) {
		t.Error("OpDay", b, e)
	}
	c := api.Command{Op: api.OpInst, By: 3, Inst: 4, Qty: -5, Price: 6, Numbers: []int64{-7, 8}}
	if b, e := cmd.Encode(c); e != api.OK || !bytes.Equal(b, pack.New().Int(2, 3, 4, -5, 6, 2, -7, 8).Done()) {
		t.Error("OpInst", b, e)
	}
	c = api.Command{Op: api.OpTrade, By: 1, Unit: api.Unit{Account: 2, Client: 3}, Other: api.Unit{Account: 4, Client: 5}, Inst: 6, Qty: 7, Price: 8}
	if b, e := cmd.Encode(c); e != api.OK || !bytes.Equal(b, pack.New().Int(7, 1, 2, 3, 4, 5, 6, 7, 8).Done()) {
		t.Error("OpTrade", b, e)
	}
	c = api.Command{Op: api.OpDeposit, Unit: api.Unit{Account: 2, Client: 3}, Asset: 4, Tag: 200, Qty: 7}
	if b, e := cmd.Encode(c); e != api.OK || !bytes.Equal(b, pack.New().Int(17, 0, 2, 3, 4, 200, 7).Done()) {
		t.Error("OpDeposit", b, e)
	}
	for _, b := range [][]byte{nil, {0, 0}, {64, 0}, {32}, {32, 0, 0}, {32, 1}, {32, 18}, {0xa0, 0, 0}, {1, 0}, pack.New().Int(32, 0).Done(), pack.New().Int(most, 0).Done(), pack.New().Int(12, 0, 1, 1, 1, 33).Done(), pack.New().Int(12, 0, 1, 1, 1, -1).Done()} {
		if c, e := cmd.Decode(b); e != api.ErrForm || !same(c, api.Command{}) {
			t.Error("Decode", b, c, e)
		}
	}
}

func TestP34_3(t *testing.T) {
	u, v := api.Unit{Account: 1, Client: 2}, api.Unit{Client: 3}
	r := api.Reply{Err: 4, Numbers: []int64{-5, most}, Debits: []api.Debit{{By: u, For: v, Amount: least}}, Returns: []api.Return{{Unit: u, Cash: 9, Lots: []api.Lot{{Asset: 1, Tag: 7, Qty: 8}}}, {Unit: v}}}
	want := pack.New().Int(4, 2, -5, most, 1, 1, 2, 0, 3, least, 2, 1, 2, 9, 1, 1, 7, 8, 0, 3, 0, 0).Done()
	b := cmd.EncodeReply(r)
	if !bytes.Equal(b, want) || !bytes.Equal(cmd.EncodeReply(api.Reply{}), make([]byte, 4)) {
		t.Errorf("%x", b)
	}
	if x, e := cmd.DecodeReply(b); e != api.OK || !same(x, r) {
		t.Error("DecodeReply", x, e)
	}
	for i := range b {
		if x, e := cmd.DecodeReply(b[:i]); e != api.ErrForm || !same(x, api.Reply{}) {
			t.Error("short", i, x, e)
		}
	}
	for _, b := range [][]byte{append(b, 0), {0, 0, 0, 0, 0}, {0x80, 0, 0, 0, 0}, {0, 1, 0, 0}} {
		if x, e := cmd.DecodeReply(b); e != api.ErrForm || !same(x, api.Reply{}) {
			t.Error("DecodeReply", b, x, e)
		}
	}
	for n, want := range map[int]api.Errno{1 << 12: api.OK, 1<<12 + 1: api.ErrForm} {
		for i, r := range []api.Reply{{Numbers: make([]int64, n)}, {Debits: make([]api.Debit, n)}, {Returns: make([]api.Return, n)}, {Returns: []api.Return{{Lots: make([]api.Lot, n)}}}} {
			if x, e := cmd.DecodeReply(cmd.EncodeReply(r)); e != want || e == api.OK && !bytes.Equal(cmd.EncodeReply(x), cmd.EncodeReply(r)) {
				t.Error("lists of", n, i, e)
			}
		}
	}
}

func TestP34_4(t *testing.T) {
	seen := map[string]int{}
	for op := 1; op <= 31; op++ {
		for _, great := range []bool{false, true} {
			c := edge(op, great)
			b, e := cmd.Encode(c)
			x, f := cmd.Decode(b)
			if e != api.OK || f != api.OK || !same(x, c) {
				t.Error("there and back", c, x, e, f)
			}
			if o, ok := seen[string(b)]; ok {
				t.Error("bytes of another one", op, o)
			}
			seen[string(b)] = op
			for i := range b {
				for _, n := range []byte{b[i] ^ 1, b[i] ^ 2, b[i] ^ 128, 0, 255} {
					d := bytes.Clone(b)
					d[i] = n
					x, e := cmd.Decode(d)
					if back, f := cmd.Encode(x); e == api.OK && (f != api.OK || !bytes.Equal(back, d)) {
						t.Error("changed", op, i, n)
					}
				}
			}
		}
	}
}
