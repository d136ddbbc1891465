package ledger

import (
	"math"

	"novation/api"
	"novation/pack"
)

// writer writes what a state has.
type writer struct{ *pack.Writer }

func (w writer) ints(l ...int) {
	for _, n := range l {
		w.Int(int64(n))
	}
}

func (w writer) unit(u api.Unit) { w.ints(u.Account, u.Client) }

func (w writer) leg(l api.Leg) {
	w.ints(l.Inst)
	w.Int(l.Qty)
}

func (w writer) flag(b bool) {
	n := 0
	if b {
		n = 1
	}
	w.ints(n)
}

// put writes a list: how many, and each one.
func put[T any](w writer, l []T, one func(T)) {
	w.ints(len(l))
	for _, x := range l {
		one(x)
	}
}

// Encode answers a state as bytes.
func Encode(s api.State) []byte {
	w := writer{pack.New()}
	w.ints(s.Day)
	w.tables(s)
	w.deals(s)
	book := func(p api.Pos) {
		w.unit(p.Unit)
		put(w, p.Legs, w.leg)
	}
	put(w, s.Book, book)
	put(w, s.Sale, book)
	put(w, s.Purse, func(f api.Flow) {
		w.unit(f.Unit)
		w.Int(f.Amount)
	})
	put(w, s.Holds, func(h api.Hold) {
		w.unit(h.Unit)
		put(w, h.Lots, func(l api.Lot) {
			w.ints(l.Asset, l.Tag)
			w.Int(l.Qty)
		})
	})
	return w.Done()
}

func (w writer) tables(s api.State) {
	put(w, s.Members, func(m api.Member) {
		w.ints(m.Id)
		w.Int(m.Cap)
		w.ints(m.Phase, m.Until)
	})
	put(w, s.Insts, func(i api.Inst) {
		w.ints(i.Id)
		w.Int(i.Mult, i.Price, i.Next)
		put(w, i.Moves, func(n int64) { w.Int(n) })
	})
	put(w, s.Assets, func(a api.Asset) {
		w.ints(a.Id)
		w.Int(a.Price, a.Haircut)
	})
	put(w, s.Accounts, func(a api.Account) {
		w.ints(a.Id, a.Member, a.Kind)
		put(w, a.Clients, func(n int) { w.ints(n) })
	})
}

func (w writer) deals(s api.State) {
	put(w, s.Choices, func(c api.Choice) {
		w.unit(c.From)
		w.unit(c.To)
		w.flag(c.Consent)
	})
	put(w, s.Groups, func(g api.Group) {
		w.ints(g.Id)
		w.unit(g.Unit)
		w.ints(g.Inst)
		w.Int(g.Price, g.Left)
	})
	put(w, s.Gives, func(g api.Give) {
		w.ints(g.Id)
		w.unit(g.From)
		w.unit(g.To)
		w.leg(g.Leg)
		w.Int(g.Price)
		w.ints(g.Group, g.Day, g.State)
	})
}

// reader reads what a state has, in the order in which it is written.
type reader struct{ *pack.Reader }

func (r reader) long() int64 { return r.Int(math.MinInt64, math.MaxInt64) }

func (r reader) int() int { return int(r.long()) }

func (r reader) unit() api.Unit { return api.Unit{Account: r.int(), Client: r.int()} }

func (r reader) leg() api.Leg { return api.Leg{Inst: r.int(), Qty: r.long()} }

func (r reader) lot() api.Lot { return api.Lot{Asset: r.int(), Tag: r.int(), Qty: r.long()} }

func (r reader) pos() api.Pos { return api.Pos{Unit: r.unit(), Legs: list(r, r.leg)} }

// list reads a list: how many, each of which takes a byte at least, and each one.
func list[T any](r reader, one func() T) []T {
	var out []T
	for range r.Int(0, int64(r.Left())) {
		x := one()
		if r.Err() != api.OK {
			return nil
		}
		out = append(out, x)
	}
	return out
}

// Decode answers the state that bytes are.
func Decode(b []byte) (api.State, api.Errno) {
	r := reader{pack.Open(b)}
	s := api.State{Day: r.int()}
	r.tables(&s)
	r.deals(&s)
	s.Book = list(r, r.pos)
	s.Sale = list(r, r.pos)
	s.Purse = list(r, func() api.Flow { return api.Flow{Unit: r.unit(), Amount: r.long()} })
	s.Holds = list(r, func() api.Hold { return api.Hold{Unit: r.unit(), Lots: list(r, r.lot)} })
	if r.End() != api.OK || Check(s) != api.OK {
		return api.State{}, api.ErrForm
	}
	return s, api.OK
}

func (r reader) tables(s *api.State) {
	s.Members = list(r, func() api.Member {
		return api.Member{Id: r.int(), Cap: r.long(), Phase: r.int(), Until: r.int()}
	})
	s.Insts = list(r, func() api.Inst {
		return api.Inst{Id: r.int(), Mult: r.long(), Price: r.long(), Next: r.long(), Moves: list(r, r.long)}
	})
	s.Assets = list(r, func() api.Asset {
		return api.Asset{Id: r.int(), Price: r.long(), Haircut: r.long()}
	})
	s.Accounts = list(r, func() api.Account {
		return api.Account{Id: r.int(), Member: r.int(), Kind: r.int(), Clients: list(r, r.int)}
	})
}

func (r reader) deals(s *api.State) {
	s.Choices = list(r, func() api.Choice {
		return api.Choice{From: r.unit(), To: r.unit(), Consent: r.Int(0, 1) == 1}
	})
	s.Groups = list(r, func() api.Group {
		return api.Group{Id: r.int(), Unit: r.unit(), Inst: r.int(), Price: r.long(), Left: r.long()}
	})
	s.Gives = list(r, func() api.Give {
		return api.Give{Id: r.int(), From: r.unit(), To: r.unit(), Leg: r.leg(), Price: r.long(), Group: r.int(), Day: r.int(), State: r.int()}
	})
}
