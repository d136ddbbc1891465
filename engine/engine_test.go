package engine_test

import (
	"bytes"
	"fmt"
	"testing"

	"novation/api"
	"novation/cmd"
	"novation/drive"
	"novation/engine"
	"novation/ledger"
	"novation/rules"
	"novation/vault"
)

// same tells whether two things are alike: none and nothing are one.
func same(a, b any) bool { return fmt.Sprintf("%d", a) == fmt.Sprintf("%d", b) }

func disk(t *testing.T, n int) *drive.Drive {
	t.Helper()
	d, e := drive.New(n)
	if e != api.OK {
		t.Fatal(e)
	}
	return d
}

func open(t *testing.T, d *drive.Drive, each int) *engine.Engine {
	t.Helper()
	g, e := engine.Open(d, each)
	if g == nil || e != api.OK {
		t.Fatal("Open", e)
	}
	return g
}

func code(t *testing.T, c api.Command) []byte {
	t.Helper()
	b, e := cmd.Encode(c)
	if e != api.OK {
		t.Fatal("Encode", c)
	}
	return b
}

// reply answers what a command is answered.
func reply(t *testing.T, g *engine.Engine, c api.Command) api.Reply {
	t.Helper()
	b, e := g.Do(code(t, c))
	if e != api.OK {
		t.Fatal("Do", c, e)
	}
	r, e := cmd.DecodeReply(b)
	if e != api.OK {
		t.Fatal("DecodeReply", b)
	}
	return r
}

func member(id int) api.Command { return api.Command{Op: api.OpMember, Member: id, Qty: 9} }

func inst(id int) api.Command {
	c := api.Command{Op: api.OpInst, Inst: id, Qty: 3, Price: 1 << 30}
	for i := range 8 {
		c.Numbers = append(c.Numbers, int64(1<<30+i))
	}
	return c
}

var day = api.Command{Op: api.OpDay}

var ask = api.Command{Op: api.OpPhase, Member: 1}

func TestP37_1(t *testing.T) {
	for _, d := range []*drive.Drive{nil, {}} {
		if g, e := engine.Open(d, 4); g != nil || e != api.ErrNil {
			t.Error("nil", e)
		}
	}
	if g, e := engine.Open(disk(t, 8), 4); g != nil || e != api.ErrArg {
		t.Error("each", e)
	}
	g := open(t, disk(t, 9), 4)
	if !ledger.Same(g.State(), ledger.Empty()) || g.Left() != 1 {
		t.Error("empty at first")
	}
	refused, _ := cmd.Encode(api.Command{Op: api.OpMark, Inst: 1})
	for i, c := range []struct {
		saved   bool
		state   []byte
		records [][]byte
		e       api.Errno
	}{
		{false, nil, [][]byte{code(t, member(1)), code(t, day)}, api.OK},
		{true, ledger.Encode(api.State{Day: 4}), [][]byte{code(t, day)}, api.OK},
		{true, nil, nil, api.ErrForm},
		{true, ledger.Encode(api.State{Day: -1}), nil, api.ErrForm},
		{true, ledger.Encode(api.State{Day: 1 << 20}), [][]byte{code(t, day)}, api.ErrForm},
		{false, nil, [][]byte{code(t, member(1)), code(t, ask)}, api.ErrForm},
		{false, nil, [][]byte{code(t, member(1)), code(t, member(1))}, api.ErrForm},
		{false, nil, [][]byte{refused}, api.ErrForm},
		{false, nil, [][]byte{nil}, api.ErrForm},
		{false, nil, [][]byte{append(code(t, day), 0)}, api.ErrForm},
	} {
		d := disk(t, 20)
		v, _ := vault.Open(d, 4)
		if c.saved && v.Compact(c.state) != api.OK {
			t.Fatal("Compact", i)
		}
		for _, b := range c.records {
			if v.Append(b) != api.OK {
				t.Fatal("Append", i)
			}
		}
		g, e := engine.Open(d, 4)
		if e != c.e || (g == nil) != (e != api.OK) {
			t.Error("Open", i, e)
		}
		if i == 1 && g.State().Day != 5 {
			t.Error("the State", g.State())
		}
	}
}

func TestP37_1_Memory(t *testing.T) {
	g := open(t, disk(t, 20), 4)
	reply(t, g, inst(1))
	s := g.State()
	s.Insts[0].Moves[0], s.Insts[0].Price = 7, 7
	if x := g.State(); x.Insts[0].Price != 1<<30 || x.Insts[0].Moves[0] != 1<<30 {
		t.Error("memory of its own")
	}
}

func TestP37_2(t *testing.T) {
	d := disk(t, 20)
	g := open(t, d, 4)
	for _, b := range [][]byte{nil, {1}, {32, 0, 0}, {64, 0}} {
		if r, e := g.Do(b); e != api.OK || !bytes.Equal(r, cmd.EncodeReply(api.Reply{Err: api.ErrForm})) {
			t.Error("no command", b, r, e)
		}
	}
	if r := reply(t, g, ask); r.Err != api.ErrNone || d.Writes() != 0 {
		t.Error("refused", r)
	}
	b := code(t, member(1))
	if r, e := g.Do(b); e != api.OK || !bytes.Equal(r, cmd.EncodeReply(api.Reply{})) || d.Writes() != 1 || g.Left() != 11 {
		t.Error("done", r, e)
	}
	b[0] = 99
	if r := reply(t, g, member(1)); r.Err != api.ErrThere || d.Writes() != 1 {
		t.Error("again", r)
	}
	if r := reply(t, g, ask); r.Err != api.OK || len(r.Numbers) != 3 || d.Writes() != 1 {
		t.Error("asked", r)
	}
	if r := reply(t, g, day); r.Err != api.OK || r.Numbers[0] != 1 || g.State().Day != 1 || d.Writes() != 2 {
		t.Error("a day", r)
	}
	if x := open(t, d, 4); !ledger.Same(x.State(), g.State()) {
		t.Error("opened anew", x.State())
	}
}

func TestP37_2_Full(t *testing.T) {
	d := disk(t, 10)
	g := open(t, d, 4) // two sectors for the journal
	for i := 1; i <= 7; i++ {
		if r := reply(t, g, day); r.Err != api.OK || r.Numbers[0] != int64(i) {
			t.Error("a day", i, r)
		}
		if x := open(t, d, 4); x.State().Day != i {
			t.Error("opened anew", x.State())
		}
		g = open(t, d, 4)
	}
	for i := 1; ; i++ {
		r := reply(t, g, inst(i))
		if r.Err == api.ErrFull {
			if len(g.State().Insts) != i-1 || i == 1 {
				t.Error("as it was", i)
			}
			break
		}
		if r.Err != api.OK || i > 8 {
			t.Fatal("inst", i, r)
		}
	}
	if g.Compact() != api.ErrFull || reply(t, g, ask).Err != api.ErrNone {
		t.Error("too much to be saved")
	}
	d = disk(t, 9)
	g = open(t, d, 4) // one sector: no room for what takes three, nor behind Compact
	unit := api.Unit{Account: 1}
	for _, c := range []api.Command{member(1), inst(1), {Op: api.OpAccount, Unit: unit, Member: 1, Id: api.House}, day} {
		if r := reply(t, g, c); r.Err != api.OK || g.Left() != 0 {
			t.Error(r)
		}
	}
	block := api.Command{Op: api.OpBlock, Unit: unit, Inst: 1}
	for range 16 {
		block.Numbers = append(block.Numbers, 1<<35, 1<<30)
	}
	before := g.State()
	if r := reply(t, g, block); r.Err != api.ErrFull || !ledger.Same(g.State(), before) || g.Left() != 1 {
		t.Error("no room", r, g.Left())
	}
	if x := open(t, d, 4); !ledger.Same(x.State(), before) {
		t.Error("opened anew", x.State())
	}
	if r := reply(t, g, day); r.Err != api.OK || r.Numbers[0] != 2 {
		t.Error("goes on", r)
	}
}

func TestP37_2_Dead(t *testing.T) {
	d := disk(t, 20)
	g := open(t, d, 4)
	d.Fuse(0)
	d.Write(0, make([]byte, api.Cell))
	if b, e := g.Do(nil); len(b) > 0 || e != api.ErrDead || g.Compact() != api.ErrDead {
		t.Error("no power", e)
	}
	if x, e := engine.Open(d, 4); e != api.OK || x.Left() != 12 {
		t.Error("opened without power", e)
	}
	d.Start()
	if r := reply(t, g, member(1)); r.Err != api.OK {
		t.Error("it did not go off in a call", r)
	}
	d.Fuse(0)
	if b, e := g.Do(code(t, day)); len(b) > 0 || e != api.ErrDead || g.State().Day != 0 {
		t.Error("it goes off", e)
	}
	d.Start()
	if b, e := g.Do(code(t, ask)); len(b) > 0 || e != api.ErrDead || g.Compact() != api.ErrDead {
		t.Error("it went off in a call", e)
	}
	g = open(t, d, 4)
	d.Fuse(0)
	if g.Compact() != api.ErrDead || d.Start() != api.OK {
		t.Error("it goes off in Compact")
	}
	if b, e := g.Do(code(t, ask)); len(b) > 0 || e != api.ErrDead {
		t.Error("it went off in Compact", e)
	}
}

func TestP37_3(t *testing.T) {
	d := disk(t, 20)
	g := open(t, d, 4)
	reply(t, g, member(1))
	if g.Compact() != api.OK || g.Left() != 12 {
		t.Error("Compact", g.Left())
	}
	reply(t, g, day)
	if x := open(t, d, 4); !ledger.Same(x.State(), g.State()) || x.Left() != 11 {
		t.Error("opened anew", x.State())
	}
	for i := 1; i <= 7; i++ {
		reply(t, g, inst(i))
	}
	if e := g.Compact(); e != api.ErrFull {
		t.Error("Compact of too much", e)
	}
	for _, g := range []*engine.Engine{nil, {}} {
		b, e := g.Do(nil)
		if len(b) > 0 || e != api.ErrNil || g.Compact() != api.ErrNil || g.Left() != 0 || !same(g.State(), api.State{}) {
			t.Error("nil, zero")
		}
	}
}

// life is commands that make a ledger of some sectors.
func life() []api.Command {
	l := []api.Command{member(1), member(2), inst(1), day, {Op: api.OpAsset, Asset: 1, Qty: 1, Price: 2}, {Op: api.OpMember, By: 1, Member: 3}}
	for id := 1; id < 5; id++ {
		l = append(l, api.Command{Op: api.OpAccount, Unit: api.Unit{Account: id}, Member: 1 + id%2, Id: api.Gross}, api.Command{Op: api.OpBind, Unit: api.Unit{Account: id, Client: id}})
		l = append(l, api.Command{Op: api.OpDeposit, Unit: api.Unit{Account: id, Client: id}, Qty: 77}, api.Command{Op: api.OpCash, Unit: api.Unit{Account: id, Client: id}})
	}
	return append(l, api.Command{Op: api.OpTrade, Unit: api.Unit{Account: 1, Client: 1}, Other: api.Unit{Account: 2, Client: 2}, Inst: 1, Qty: 2, Price: 1 << 30}, day, day)
}

func TestP37_4(t *testing.T) {
	for fuse := range 40 {
		for mask := range 4 {
			d := disk(t, 16)
			g := open(t, d, 5)
			var keep []int
			for i := range 5 {
				if mask == 3 || mask>>(i%2)&1 == 1 {
					keep = append(keep, i)
				}
			}
			d.Fuse(fuse, keep...)
			crash(t, d, g)
		}
	}
}

// crash does a life up to where the power goes off, and tells whether the ledger is that ahead of a command or behind it.
func crash(t *testing.T, d *drive.Drive, g *engine.Engine) {
	s := ledger.Empty()
	for _, c := range life() {
		next, r := rules.Apply(s, c)
		b, e := g.Do(code(t, c))
		if e == api.ErrDead {
			d.Start()
			g = open(t, d, 5)
			if x := g.State(); !ledger.Same(x, s) && !ledger.Same(x, next) {
				t.Fatal("neither ahead nor behind", c)
			}
			if again := open(t, d, 5); !ledger.Same(again.State(), g.State()) {
				t.Fatal("opened again", c)
			}
			if s = g.State(); ledger.Same(s, next) {
				continue
			}
			next, r = rules.Apply(s, c)
			b, e = g.Do(code(t, c))
		}
		if e != api.OK || !bytes.Equal(b, cmd.EncodeReply(r)) || !ledger.Same(g.State(), next) {
			t.Fatal("not the rules' reply", c, e)
		}
		s = next
	}
}
