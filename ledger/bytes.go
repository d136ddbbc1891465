package ledger

import (
	"novation/api"
	"novation/wire"
)

// writer writes what a state has.
type writer struct{ wire.Writer }

func (w writer) flag(b bool) {
	n := 0
	if b {
		n = 1
	}
	w.Ints(n)
}

func (w writer) pos(p api.Pos) {
	w.Unit(p.Unit)
	put(w, p.Legs, w.Leg)
}

func put[T any](w writer, l []T, one func(T)) { wire.Put(w.Writer, l, one) }

// Encode answers a state as bytes.
func Encode(s api.State) []byte {
	w := writer{wire.New()}
	w.Ints(s.Day)
	w.tables(s)
	w.deals(s)
	put(w, s.Book, w.pos)
	put(w, s.Sale, w.pos)
	put(w, s.Purse, func(f api.Flow) {
		w.Unit(f.Unit)
		w.Int(f.Amount)
	})
	put(w, s.Holds, func(h api.Hold) {
		w.Unit(h.Unit)
		put(w, h.Lots, w.Lot)
	})
	return w.Done()
}

func (w writer) tables(s api.State) {
	put(w, s.Members, func(m api.Member) {
		w.Ints(m.Id)
		w.Int(m.Cap)
		w.Ints(m.Phase, m.Until)
	})
	put(w, s.Insts, func(i api.Inst) {
		w.Ints(i.Id)
		w.Int(i.Mult, i.Price, i.Next)
		put(w, i.Moves, func(n int64) { w.Int(n) })
	})
	put(w, s.Assets, func(a api.Asset) {
		w.Ints(a.Id)
		w.Int(a.Price, a.Haircut)
	})
	put(w, s.Accounts, func(a api.Account) {
		w.Ints(a.Id, a.Member, a.Kind)
		put(w, a.Clients, func(n int) { w.Ints(n) })
	})
}

func (w writer) deals(s api.State) {
	put(w, s.Choices, func(c api.Choice) {
		w.Unit(c.From)
		w.Unit(c.To)
		w.flag(c.Consent)
	})
	put(w, s.Groups, func(g api.Group) {
		w.Ints(g.Id)
		w.Unit(g.Unit)
		w.Ints(g.Inst)
		w.Int(g.Price, g.Left)
	})
	put(w, s.Gives, func(g api.Give) {
		w.Ints(g.Id)
		w.Unit(g.From)
		w.Unit(g.To)
		w.Leg(g.Leg)
		w.Int(g.Price)
		w.Ints(g.Group, g.Day, g.State)
	})
}

// reader reads what a state has, in the order in which it is written.
type reader struct{ wire.Reader }

func (r reader) pos() api.Pos { return api.Pos{Unit: r.Unit(), Legs: list(r, r.Leg)} }

// list reads a list of as many things as there are bytes, at most.
func list[T any](r reader, one func() T) []T { return wire.List(r.Reader, r.Left(), one) }

// Decode answers the state that bytes are.
func Decode(b []byte) (api.State, api.Errno) {
	r := reader{wire.Open(b)}
	s := api.State{Day: r.Number()}
	r.tables(&s)
	r.deals(&s)
	s.Book = list(r, r.pos)
	s.Sale = list(r, r.pos)
	s.Purse = list(r, func() api.Flow { return api.Flow{Unit: r.Unit(), Amount: r.Long()} })
	s.Holds = list(r, func() api.Hold { return api.Hold{Unit: r.Unit(), Lots: list(r, r.Lot)} })
	if r.End() != api.OK || Check(s) != api.OK {
		return api.State{}, api.ErrForm
	}
	return s, api.OK
}

func (r reader) tables(s *api.State) {
	s.Members = list(r, func() api.Member {
		return api.Member{Id: r.Number(), Cap: r.Long(), Phase: r.Number(), Until: r.Number()}
	})
	s.Insts = list(r, func() api.Inst {
		return api.Inst{Id: r.Number(), Mult: r.Long(), Price: r.Long(), Next: r.Long(), Moves: list(r, r.Long)}
	})
	s.Assets = list(r, func() api.Asset {
		return api.Asset{Id: r.Number(), Price: r.Long(), Haircut: r.Long()}
	})
	s.Accounts = list(r, func() api.Account {
		return api.Account{Id: r.Number(), Member: r.Number(), Kind: r.Number(), Clients: list(r, r.Number)}
	})
}

func (r reader) deals(s *api.State) {
	s.Choices = list(r, func() api.Choice {
		return api.Choice{From: r.Unit(), To: r.Unit(), Consent: r.Int(0, 1) == 1}
	})
	s.Groups = list(r, func() api.Group {
		return api.Group{Id: r.Number(), Unit: r.Unit(), Inst: r.Number(), Price: r.Long(), Left: r.Long()}
	})
	s.Gives = list(r, func() api.Give {
		return api.Give{Id: r.Number(), From: r.Unit(), To: r.Unit(), Leg: r.Leg(), Price: r.Long(), Group: r.Number(), Day: r.Number(), State: r.Number()}
	})
}
