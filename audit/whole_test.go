package audit_test

import (
	"bytes"
	"fmt"
	"slices"
	"testing"

	"novation/api"
	"novation/audit"
	"novation/book"
	"novation/cmd"
	"novation/cover"
	"novation/drive"
	"novation/engine"
	"novation/hold"
	"novation/ledger"
	"novation/member"
	"novation/port"
	"novation/purse"
	"novation/rest"
	"novation/rules"
	"novation/units"
	"novation/wide"
)

// same tells whether two things are alike: none and nothing are one.
func same(a, b any) bool { return fmt.Sprintf("%d", a) == fmt.Sprintf("%d", b) }

func engineOf(t *testing.T, cells, each int) (*drive.Drive, *engine.Engine) {
	t.Helper()
	d, e := drive.New(cells)
	if e != api.OK {
		t.Fatal(e)
	}
	g, e := engine.Open(d, each)
	if e != api.OK {
		t.Fatal(e)
	}
	return d, g
}

func encode(t *testing.T, c api.Command) []byte {
	t.Helper()
	b, e := cmd.Encode(c)
	if e != api.OK {
		t.Fatal("Encode", c)
	}
	return b
}

func TestT1(t *testing.T) {
	seen := map[api.Errno]int{}
	for seed := range uint64(24) {
		_, g := engineOf(t, 2048, 250)
		f := newFlat()
		gen := &lives{seed: seed * 77, wild: seed%2 == 1}
		first := start()
		for i := range 600 {
			c := api.Command{}
			if i < len(first) {
				c = first[i]
			} else {
				c = gen.command(g.State())
			}
			b := encode(t, c)
			next, want := f.apply(c)
			if i%50 == 49 { // bytes that are none
				b, next, want = append(b, 0), f, api.Reply{Err: api.ErrForm}
			}
			got, e := g.Do(b)
			if e != api.OK || !bytes.Equal(got, cmd.EncodeReply(want)) {
				r, _ := cmd.DecodeReply(got)
				t.Fatal("not the model's reply", seed, i, c, r, want)
			}
			seen[want.Err]++
			f = next
			agree(t, f, g.State())
		}
	}
	for _, e := range []api.Errno{api.OK, api.ErrForm, api.ErrArg, api.ErrRange, api.ErrNone, api.ErrThere, api.ErrState, api.ErrAuth, api.ErrFrozen, api.ErrCap, api.ErrKind, api.ErrWindow, api.ErrElect, api.ErrConsent, api.ErrBusy, api.ErrMargin, api.ErrHeld, api.ErrSame} {
		if seen[e] == 0 {
			t.Error("never said", int(e))
		}
	}
}

// agree tells whether a model has what a ledger has.
func agree(t *testing.T, f *flat, s api.State) {
	t.Helper()
	for _, x := range append(ledger.Units(s), fund, treasury) {
		if f.money(x).Cmp(bigs(purse.Get(s.Purse, x))) != 0 || len(hold.Lots(s.Holds, x)) != len(f.lots[x]) || len(book.Of(s.Book, x)) != len(f.pos[x]) || len(book.Of(s.Sale, x)) != len(f.sale[x]) {
			t.Fatal("unlike", x)
		}
		for _, l := range hold.Lots(s.Holds, x) {
			if of(f.lots, x, [2]int{l.Asset, l.Tag}).Cmp(bigs(l.Qty)) != 0 {
				t.Fatal("unlike lots", x)
			}
		}
		for _, l := range book.Of(s.Book, x) {
			if of(f.pos, x, l.Inst).Cmp(bigs(l.Qty)) != 0 {
				t.Fatal("unlike positions", x)
			}
		}
	}
	if !slices.Equal(f.groups, s.Groups) || !slices.Equal(f.gives, s.Gives) || len(f.choices) != len(s.Choices) {
		t.Fatal("unlike groups, give-ups, choices")
	}
}

func TestT2_T5(t *testing.T) {
	closed, paid := 0, 0
	for seed := range uint64(40) {
		live(seed+100, false, 500, func(s, x api.State, l []api.Done) {
			last := l[len(l)-1]
			if c := last.Command; c.Op == api.OpClose && last.Reply.Err == api.OK {
				closed++
				paid += len(last.Reply.Debits)
				closing(t, s, x, last)
			} else if len(last.Reply.Debits)+len(last.Reply.Returns) > 0 {
				t.Error("debits, returns", c)
			}
		})
	}
	if closed == 0 || paid == 0 {
		t.Error("never closed", closed, paid)
	}
}

// closing tells whether each unit owes just less what was paid for it, and got back just the rest of what it had.
func closing(t *testing.T, s, x api.State, last api.Done) {
	id, log := last.Command.Member, []api.Done{last}
	got := map[api.Unit]int64{}
	for _, r := range last.Reply.Returns {
		got[r.Unit], _ = rest.Worth(s.Assets, r)
	}
	for _, u := range units.Of(s.Accounts, id) {
		owed, owes := max(0, -purse.Get(s.Purse, u)), max(0, -purse.Get(x.Purse, u))
		if audit.For(log, u) != wide.Of(owed-owes) {
			t.Error("what is paid for", u, owed, owes)
		}
		had, _ := cover.Worth(s.Assets, hold.Lots(s.Holds, u))
		had += max(0, purse.Get(s.Purse, u))
		if by, _ := wide.Int(audit.By(log, u)); had-by != got[u] {
			t.Error("gets back", u, had, by, got[u])
		}
	}
	if !audit.Fair(s, last) || len(units.Of(s.Accounts, id)) == 0 {
		t.Error("by who may not", last)
	}
}

func TestT3(t *testing.T) {
	done := 0
	for seed := range uint64(40) {
		live(seed+200, false, 500, func(s, x api.State, l []api.Done) {
			last := l[len(l)-1]
			if last.Command.Op != api.OpPort || last.Command.By != 0 {
				return
			}
			from := last.Command.Unit
			to, e := port.May(s, from)
			if (e == api.OK) != (last.Reply.Err == api.OK) {
				t.Error("just when it may", last, e)
			}
			if last.Reply.Err != api.OK {
				if !ledger.Same(s, x) {
					t.Error("nothing moves", last)
				}
				return
			}
			done++
			ported(t, s, x, from, to)
			if p := audit.Ports(l); p[len(p)-1] != (api.Choice{From: from, To: to, Consent: true}) {
				t.Error("Ports", p)
			}
		})
	}
	if done == 0 {
		t.Error("never ported")
	}
}

func ported(t *testing.T, s, x api.State, from, to api.Unit) {
	for _, u := range append(ledger.Units(s), fund, treasury) {
		was := u
		switch u {
		case from:
			was = nobody
		case to:
			was = from
		}
		if !same(book.Of(x.Book, u), book.Of(s.Book, was)) || purse.Get(x.Purse, u) != purse.Get(s.Purse, was) || !same(hold.Lots(x.Holds, u), hold.Lots(s.Holds, was)) {
			t.Error("not what it had", u)
		}
	}
}

// nobody is a unit that has nothing.
var nobody = api.Unit{Account: -1}

func TestT4(t *testing.T) {
	for seed := range uint64(10) {
		live(seed+300, seed%2 == 0, 600, func(s, x api.State, l []api.Done) {
			if audit.Check(x, l) != api.OK || !book.Balanced(slices.Concat(x.Book, x.Sale)) {
				t.Fatal("not balanced", l[len(l)-1])
			}
		})
	}
}

func TestT6(t *testing.T) {
	for seed := range uint64(60) {
		gen := &lives{seed: seed*31 + 5}
		d, g := engineOf(t, 160, 25)
		for i, first := 0, start(); i < 160; i++ {
			c := api.Command{}
			if i < len(first) {
				c = first[i]
			} else {
				c = gen.command(g.State())
			}
			if gen.next(9) == 0 {
				var keep []int
				for k := range 25 {
					if gen.next(3) > 0 {
						keep = append(keep, k)
					}
				}
				d.Fuse(gen.next(3), keep...)
			}
			s := g.State()
			b := encode(t, c)
			got, e := g.Do(b)
			next, r := rules.Apply(s, c)
			if e == api.ErrDead {
				d.Start()
				h, f := engine.Open(d, 25)
				if f != api.OK || !ledger.Same(h.State(), s) && !ledger.Same(h.State(), next) {
					t.Fatal("neither ahead nor behind", seed, i, c)
				}
				if g, f = engine.Open(d, 25); f != api.OK || !ledger.Same(g.State(), h.State()) {
					t.Fatal("opened again", seed, i)
				}
				continue
			}
			if e != api.OK || !bytes.Equal(got, cmd.EncodeReply(r)) || !ledger.Same(g.State(), next) {
				t.Fatal("not the rules'", seed, i, c, e)
			}
		}
	}
}

func TestT7(t *testing.T) {
	frozen := 0
	for seed := range uint64(30) {
		live(seed+400, false, 500, func(s, x api.State, l []api.Done) {
			switch l[len(l)-1].Command.Op {
			case api.OpDay, api.OpPort, api.OpLiquidate, api.OpFill, api.OpClose:
				return
			}
			for _, m := range s.Members {
				if m.Phase == member.Active {
					continue
				}
				frozen++
				for _, u := range units.Of(s.Accounts, m.Id) {
					if !same(book.Of(x.Book, u), book.Of(s.Book, u)) || !same(book.Of(x.Sale, u), book.Of(s.Sale, u)) || purse.Get(x.Purse, u) != purse.Get(s.Purse, u) || !same(hold.Lots(x.Holds, u), hold.Lots(s.Holds, u)) {
						t.Error("frozen, and changed", u, l[len(l)-1])
					}
				}
			}
		})
	}
	if frozen == 0 {
		t.Error("nobody frozen")
	}
}
