package rules

import (
	"novation/api"
	"novation/block"
	"novation/deal"
	"novation/fall"
	"novation/give"
	"novation/inst"
	"novation/purse"
)

// trading does what trades, gives up and allocates.
func (d *desk) trading() api.Errno {
	switch d.c.Op {
	case api.OpTrade:
		return d.run(d.unitLive, d.otherLive, d.instThere, d.oneOrMore, d.trade, d.unitRoom, d.otherRoom)
	case api.OpGive:
		return d.run(d.unitLive, d.otherLive, d.instThere, d.offers, d.offer)
	case api.OpAccept:
		return d.run(d.giveThere, d.fromLive, d.toLive, d.accept, d.fromRoom, d.toRoom)
	case api.OpReject:
		return d.run(d.giveThere, d.reject)
	case api.OpCancel:
		return d.run(d.giveThere, d.cancel)
	case api.OpBlock:
		return d.run(d.unitLive, d.instThere, d.pairs, d.block)
	}
	return d.run(d.groupThere, d.groupLive, d.otherLive, d.alloc)
}

func (d *desk) oneOrMore() api.Errno {
	if d.c.Qty < 1 {
		return api.ErrArg
	}
	return api.OK
}

// deal has contracts go from one unit to another one at a price.
func (d *desk) deal(from, to api.Unit, leg api.Leg, price int64) api.Errno {
	i, _ := inst.Find(d.Insts, leg.Inst)
	t, e := deal.At(deal.Desk{Book: d.Book, Purse: d.Purse}, i, from, to, leg.Qty, price)
	d.Book, d.Purse = t.Book, t.Purse
	return e
}

func (d *desk) leg() api.Leg { return api.Leg{Inst: d.c.Inst, Qty: d.c.Qty} }

func (d *desk) trade() api.Errno { return d.deal(d.c.Other, d.c.Unit, d.leg(), d.c.Price) }

func (d *desk) offers() api.Errno {
	if d.c.Qty < -api.MaxQty || d.c.Qty > api.MaxQty || d.c.Price < 0 || d.c.Price > api.MaxPrice {
		return api.ErrArg
	}
	return api.OK
}

// propose has a give-up wait to be taken.
func (d *desk) propose(g api.Give) api.Errno {
	l, id, e := give.New(d.Gives, g, d.Day)
	d.Gives = l
	d.tell(int64(id))
	return e
}

func (d *desk) offer() api.Errno {
	return d.propose(api.Give{From: d.c.Unit, To: d.c.Other, Leg: d.leg(), Price: d.c.Price})
}

func (d *desk) giveThere() api.Errno {
	g, ok := give.Find(d.Gives, d.c.Id)
	if !ok {
		return api.ErrNone
	}
	d.give = g
	return api.OK
}

func (d *desk) fromLive() api.Errno { return d.live(d.give.From) }

func (d *desk) toLive() api.Errno { return d.live(d.give.To) }

func (d *desk) fromRoom() api.Errno { return d.room(d.give.From) }

func (d *desk) toRoom() api.Errno { return d.room(d.give.To) }

func (d *desk) accept() (e api.Errno) {
	if d.Gives, e = give.Turn(d.Gives, d.give.Id, give.Accepted); e != api.OK {
		return e
	}
	return d.deal(d.give.From, d.give.To, d.give.Leg, d.give.Price)
}

// end has a give-up come to nothing: what was allocated by it is left again.
func (d *desk) end(g api.Give, state int) (e api.Errno) {
	if d.Gives, e = give.Turn(d.Gives, g.Id, state); e != api.OK || g.Group == 0 {
		return e
	}
	d.Groups, e = block.Back(d.Groups, g.Group, g.Leg.Qty)
	return e
}

func (d *desk) reject() api.Errno { return d.end(d.give, give.Rejected) }

func (d *desk) cancel() api.Errno { return d.end(d.give, give.Cancelled) }

func (d *desk) pairs() api.Errno {
	if n := len(d.c.Numbers); n < 2 || n%2 != 0 {
		return api.ErrArg
	}
	return api.OK
}

func (d *desk) fills() []api.Fill {
	var out []api.Fill
	for i := 0; i+1 < len(d.c.Numbers); i += 2 {
		out = append(out, api.Fill{Qty: d.c.Numbers[i], Price: d.c.Numbers[i+1]})
	}
	return out
}

func (d *desk) block() api.Errno {
	i, _ := inst.Find(d.Insts, d.c.Inst)
	all, price, _, e := block.Average(d.fills())
	if e != api.OK {
		return e
	}
	rest, e := block.Rest(i.Mult, d.fills())
	if e != api.OK {
		return e
	}
	l, id, e := block.Open(d.Groups, api.Group{Unit: d.c.Unit, Inst: d.c.Inst, Price: price, Left: all})
	if e != api.OK {
		return e
	}
	d.Groups = l
	d.Purse, e = purse.Move(d.Purse, fall.Treasury(), d.c.Unit, rest)
	d.tell(int64(id), price, rest)
	return e
}

func (d *desk) groupThere() api.Errno {
	g, ok := block.Find(d.Groups, d.c.Id)
	if !ok {
		return api.ErrNone
	}
	d.group = g
	return api.OK
}

func (d *desk) groupLive() api.Errno { return d.live(d.group.Unit) }

func (d *desk) alloc() (e api.Errno) {
	if d.Groups, e = block.Alloc(d.Groups, d.group.Id, d.c.Qty); e != api.OK {
		return e
	}
	leg := api.Leg{Inst: d.group.Inst, Qty: d.c.Qty}
	return d.propose(api.Give{From: d.group.Unit, To: d.c.Other, Leg: leg, Price: d.group.Price, Group: d.group.Id})
}
