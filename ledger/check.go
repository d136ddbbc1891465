package ledger

import (
	"novation/acct"
	"novation/api"
	"novation/asset"
	"novation/book"
	"novation/elect"
	"novation/fall"
	"novation/hold"
	"novation/inst"
	"novation/member"
	"novation/purse"
	"novation/table"
)

const mostDay = 1 << 21 // of a give-up

// checker is a state, and the units that there are.
type checker struct {
	api.State
	units map[api.Unit]struct{}
}

// Check tells whether a state may be.
func Check(s api.State) api.Errno {
	c := checker{s, map[api.Unit]struct{}{}}
	for _, u := range Units(s) {
		c.units[u] = struct{}{}
	}
	if s.Day < 0 || s.Day > api.MaxDays || !c.tables() || !c.choices() || !c.groups() || !c.gives() || !c.books() || !c.cash() || !c.holds() {
		return api.ErrForm
	}
	return api.OK
}

// all tells whether everything of a list may be.
func all[T any](l []T, may func(T) bool) bool {
	for _, x := range l {
		if !may(x) {
			return false
		}
	}
	return true
}

// is tells whether a list is a table of things that may be.
func is[T any](l []T, id func(T) int, check func(T) api.Errno) bool {
	return all(l, func(x T) bool { return check(x) == api.OK }) && table.Rising(l, func(a, b T) bool { return id(a) < id(b) })
}

func (c checker) tables() bool {
	return is(c.Members, func(m api.Member) int { return m.Id }, member.Check) &&
		is(c.Insts, func(i api.Inst) int { return i.Id }, inst.Check) &&
		is(c.Assets, func(a api.Asset) int { return a.Id }, asset.Check) &&
		is(c.Accounts, func(a api.Account) int { return a.Id }, acct.Check) &&
		all(c.Accounts, func(a api.Account) bool { return c.member(a.Member) })
}

func (c checker) member(id int) bool {
	_, ok := member.Find(c.Members, id)
	return ok
}

func (c checker) unit(u api.Unit) bool {
	_, ok := c.units[u]
	return ok
}

// purse tells whether a unit may have cash and collateral.
func (c checker) purse(u api.Unit) bool {
	return c.unit(u) || u == fall.Fund() || u == fall.Treasury()
}

func (c checker) inst(id int) bool {
	_, ok := inst.Find(c.Insts, id)
	return ok
}

func (c checker) asset(id int) bool {
	_, ok := asset.Find(c.Assets, id)
	return ok
}

func (c checker) choices() bool {
	return elect.Is(c.Choices) && all(c.Choices, func(x api.Choice) bool { return c.unit(x.From) && c.unit(x.To) })
}

func priced(price int64) bool { return price >= 0 && price <= api.MaxPrice }

func within(qty int64) bool { return qty >= -api.MaxQty && qty <= api.MaxQty }

// numbered tells whether a list has at most so many things, whose Ids are 1, 2, 3 and so on.
func numbered[T any](l []T, most int, id func(T) int) bool {
	for i, x := range l {
		if id(x) != i+1 {
			return false
		}
	}
	return len(l) <= most
}

func (c checker) groups() bool {
	return numbered(c.Groups, api.MaxGroups, func(g api.Group) int { return g.Id }) && all(c.Groups, func(g api.Group) bool {
		return c.unit(g.Unit) && c.inst(g.Inst) && priced(g.Price) && within(g.Left)
	})
}

func (c checker) gives() bool {
	return numbered(c.Gives, api.MaxGives, func(g api.Give) int { return g.Id }) && all(c.Gives, func(g api.Give) bool {
		return c.unit(g.From) && c.unit(g.To) && g.From != g.To && c.inst(g.Leg.Inst) && within(g.Leg.Qty) && g.Leg.Qty != 0 && priced(g.Price) &&
			g.Group >= 0 && g.Group <= len(c.Groups) && g.Day >= 0 && g.Day <= mostDay && g.State >= 1 && g.State <= 5
	})
}

func (c checker) books() bool {
	pos := func(p api.Pos) bool {
		return c.unit(p.Unit) && all(p.Legs, func(l api.Leg) bool { return c.inst(l.Inst) })
	}
	return book.Is(c.Book) && book.Is(c.Sale) && all(c.Book, pos) && all(c.Sale, pos)
}

func (c checker) cash() bool {
	return purse.Is(c.Purse) && all(c.Purse, func(f api.Flow) bool { return c.purse(f.Unit) })
}

func (c checker) holds() bool {
	return hold.Is(c.Holds) && all(c.Holds, func(h api.Hold) bool {
		return c.purse(h.Unit) && all(h.Lots, func(l api.Lot) bool { return c.asset(l.Asset) })
	})
}
