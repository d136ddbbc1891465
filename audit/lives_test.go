package audit_test

import (
	"slices"

	"novation/api"
)

// lives makes commands by a short rule, most of which may be done; wild ones have numbers near the edges.
type lives struct {
	seed uint64
	wild bool
}

func (l *lives) next(n int) int {
	l.seed = l.seed*6364136223846793005 + 1442695040888963407
	return int(l.seed >> 33 % uint64(n))
}

func (l *lives) pick(a ...int64) int64 { return a[l.next(len(a))] }

func (l *lives) qty() int64 {
	if l.wild && l.next(3) == 0 {
		return l.pick(-1<<63, 1<<63-1, 1<<40, -1<<40, 1<<40+1, 1<<62, 0, -1, 1<<63-9, 1<<35)
	}
	return int64(1 + l.next(12))
}

func (l *lives) price() int64 {
	if l.wild && l.next(4) == 0 {
		return l.pick(-1, 0, 1<<31-1, 1<<31, 1<<30, 1<<62)
	}
	return int64(l.next(120))
}

var clients = []api.Unit{{Account: 2, Client: 1}, {Account: 2, Client: 2}, {Account: 4, Client: 1}, {Account: 4, Client: 2}, {Account: 6, Client: 5}}

var houses = []api.Unit{{Account: 1}, {Account: 3}, {Account: 5}}

func (l *lives) unit() api.Unit {
	switch n := l.next(20); {
	case n < 12:
		return clients[l.next(5)]
	case n < 17:
		return houses[l.next(3)]
	case n < 19:
		return api.Unit{Account: 2 + 2*l.next(2), Client: 1 + l.next(9)}
	}
	return api.Unit{Account: l.next(8), Client: l.next(5)}
}

// start is what lives begin with.
func start() []api.Command {
	var l []api.Command
	for id := 1; id < 4; id++ {
		l = append(l, api.Command{Op: api.OpMember, Member: id, Qty: 5000})
	}
	l = append(l, api.Command{Op: api.OpInst, Inst: 1, Qty: 10, Price: 7, Numbers: []int64{2, -3}}, api.Command{Op: api.OpInst, Inst: 2, Qty: 1 << 16, Price: 100, Numbers: []int64{9, -1, 1}})
	for id := 1; id < 4; id++ {
		l = append(l, api.Command{Op: api.OpAsset, Asset: id, Qty: int64(id) * 1000, Price: int64(id) * 3})
		l = append(l, api.Command{Op: api.OpAccount, Unit: api.Unit{Account: 2*id - 1}, Member: id, Id: api.House}, api.Command{Op: api.OpAccount, Unit: api.Unit{Account: 2 * id}, Member: id, Id: 1 + id})
	}
	for _, u := range clients {
		l = append(l, api.Command{Op: api.OpBind, Unit: u})
	}
	for client := 3; client < 10; client++ {
		l = append(l, api.Command{Op: api.OpBind, Unit: api.Unit{Account: 2, Client: client}}, api.Command{Op: api.OpBind, Unit: api.Unit{Account: 4, Client: client}})
	}
	for _, u := range append(slices.Clone(clients), houses...) {
		l = append(l, api.Command{Op: api.OpDeposit, Unit: u, Qty: 300}, api.Command{Op: api.OpDeposit, Unit: u, Asset: 1 + u.Account%3, Tag: u.Client, Qty: 30})
	}
	return append(l, api.Command{Op: api.OpDeposit, Qty: 500}, api.Command{Op: api.OpDeposit, Asset: 2, Tag: 9, Qty: 50})
}

// command answers the next command of a life, by the ledger that there is.
func (l *lives) command(s api.State) api.Command {
	c := api.Command{Op: 7 + l.next(25)}
	if l.next(12) == 0 {
		c.By = 1 + l.next(4)
	}
	switch n := l.next(30); {
	case n < 8:
		c.Op = api.OpTrade
	case n < 10:
		c.Op = api.OpFill
	case n < 11:
		c.Op = 1 + l.next(6)
	}
	l.fields(&c, s)
	return c
}

func (l *lives) fields(c *api.Command, s api.State) {
	switch c.Op {
	case api.OpMember, api.OpCap:
		c.Member, c.Qty = 1+l.next(8), l.pick(20000, 1<<62, 7000, -1, 1<<62+1)
	case api.OpInst:
		c.Inst, c.Qty, c.Price, c.Numbers = 1+l.next(8), l.pick(1, 5, 1<<16, 1<<16+1), l.price(), []int64{l.pick(1, -5, 1<<31-1, 1<<31), 3}
	case api.OpAsset:
		c.Asset, c.Qty, c.Price = l.next(5), l.pick(0, 500, 10000, 10001), l.price()
	case api.OpAccount:
		c.Unit.Account, c.Member, c.Id = 1+l.next(16), 1+l.next(8), l.next(6)
	case api.OpBind, api.OpPosition, api.OpCash, api.OpNeed, api.OpExcess:
		if c.Unit = l.unit(); c.Op != api.OpBind && l.next(3) == 0 {
			c.Unit.Client = 0
		}
	case api.OpTrade, api.OpGive:
		c.Unit, c.Other, c.Inst, c.Qty, c.Price = l.unit(), l.unit(), 1+l.next(2), l.qty(), l.price()
	case api.OpAccept, api.OpReject, api.OpCancel:
		c.Id = l.next(len(s.Gives) + 2)
	case api.OpBlock:
		side := l.pick(1, -1)
		c.Unit, c.Inst, c.Numbers = l.unit(), 1+l.next(2), []int64{side * l.qty(), l.price(), side * l.qty(), l.price()}
	case api.OpAlloc:
		c.Id, c.Other, c.Qty = l.next(len(s.Groups)+2), l.unit(), l.qty()*l.pick(1, -1)
	case api.OpMark:
		c.Inst, c.Price = 1+l.next(2), l.price()
	case api.OpValue:
		c.Asset, c.Price = 1+l.next(3), l.price()
	case api.OpDeposit, api.OpWithdraw:
		c.Unit, c.Asset, c.Tag, c.Qty = l.unit(), l.next(4), l.next(4)*l.next(2), l.qty()
	case api.OpPhase:
		c.Member = 1 + l.next(4)
	default:
		l.failing(c, s)
	}
}

func (l *lives) failing(c *api.Command, s api.State) {
	switch c.Op {
	case api.OpElect:
		c.Unit, c.Other = l.unit(), api.Unit{Account: 2 + 2*l.next(2), Client: 1 + l.next(9)}
	case api.OpConsent:
		if c.Unit, c.Other = l.unit(), l.unit(); len(s.Choices) > 0 {
			x := s.Choices[l.next(len(s.Choices))]
			c.Unit, c.Other = x.From, x.To
		}
	case api.OpDefault:
		if c.Member = 1 + l.next(3); l.next(3) > 0 { // not too soon
			*c = api.Command{Op: api.OpDay}
			return
		}
		c.Qty = int64(2 + l.next(9))
	case api.OpPort:
		if c.Unit = l.unit(); len(s.Choices) > 0 {
			c.Unit = s.Choices[l.next(len(s.Choices))].From
		}
	case api.OpLiquidate, api.OpClose:
		c.Member = 1 + l.next(3)
	case api.OpFill:
		c.Unit, c.Other, c.Inst, c.Qty, c.Price = l.unit(), houses[l.next(3)], 1+l.next(2), l.qty(), l.price()
		if len(s.Sale) > 0 {
			p := s.Sale[l.next(len(s.Sale))]
			leg := p.Legs[l.next(len(p.Legs))]
			c.Unit, c.Inst, c.Qty = p.Unit, leg.Inst, leg.Qty
		}
	}
}
