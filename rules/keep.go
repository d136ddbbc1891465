package rules

import (
	"novation/acct"
	"novation/api"
	"novation/asset"
	"novation/cover"
	"novation/fall"
	"novation/give"
	"novation/hold"
	"novation/inst"
	"novation/mark"
	"novation/need"
	"novation/purse"
)

// keeping does what prices, days, deposits and withdrawals change.
func (d *desk) keeping() api.Errno {
	switch d.c.Op {
	case api.OpMark:
		return d.run(d.mark)
	case api.OpValue:
		return d.run(d.value)
	case api.OpDay:
		return d.run(d.dayLeft, d.settle, d.nextDay)
	case api.OpDeposit:
		return d.run(d.giverLive, d.amount, d.deposit)
	}
	return d.run(d.unitLive, d.amount, d.withdraw, d.margin)
}

func (d *desk) mark() (e api.Errno) {
	d.Insts, e = inst.Next(d.Insts, d.c.Inst, d.c.Price)
	return e
}

func (d *desk) value() (e api.Errno) {
	d.Assets, e = asset.Priced(d.Assets, d.c.Asset, d.c.Price)
	return e
}

func (d *desk) dayLeft() api.Errno {
	if d.Day >= api.MaxDays {
		return api.ErrLimit
	}
	return api.OK
}

func (d *desk) settle() (e api.Errno) {
	if d.Purse, e = mark.Settle(d.Insts, d.Book, d.Purse); e != api.OK {
		return e
	}
	d.Purse, e = mark.Settle(d.Insts, d.Sale, d.Purse)
	return e
}

func (d *desk) nextDay() api.Errno {
	d.Insts = inst.Settle(d.Insts)
	d.Day++
	for _, id := range give.Late(d.Gives, d.Day) {
		g, _ := give.Find(d.Gives, id)
		if e := d.end(g, give.Expired); e != api.OK {
			return e
		}
	}
	d.tell(int64(d.Day))
	return api.OK
}

// giverLive is unitLive, but the fund is there too.
func (d *desk) giverLive() api.Errno {
	if d.c.Unit == fall.Fund() {
		return api.OK
	}
	return d.unitLive()
}

func (d *desk) amount() api.Errno {
	if d.c.Qty < 1 || d.c.Asset == 0 && d.c.Tag != 0 {
		return api.ErrArg
	}
	return api.OK
}

func (d *desk) lot() api.Lot { return api.Lot{Asset: d.c.Asset, Tag: d.c.Tag, Qty: d.c.Qty} }

func (d *desk) deposit() (e api.Errno) {
	if d.c.Asset == 0 {
		d.Purse, e = purse.Pay(d.Purse, api.Flow{Unit: d.c.Unit, Amount: d.c.Qty})
		return e
	}
	if _, ok := asset.Find(d.Assets, d.c.Asset); !ok {
		return api.ErrNone
	}
	d.Holds, e = hold.Put(d.Holds, d.c.Unit, d.lot())
	return e
}

func (d *desk) withdraw() (e api.Errno) {
	if d.c.Asset != 0 {
		d.Holds, e = hold.Take(d.Holds, d.c.Unit, d.lot())
		return e
	}
	if purse.Get(d.Purse, d.c.Unit) < d.c.Qty {
		return api.ErrHeld
	}
	d.Purse, e = purse.Pay(d.Purse, api.Flow{Unit: d.c.Unit, Amount: -d.c.Qty})
	return e
}

func (d *desk) side() cover.Side {
	return cover.Side{Assets: d.Assets, Insts: d.Insts, Book: d.Book, Purse: d.Purse, Holds: d.Holds}
}

// margin tells whether the margin unit of the command's unit has what it must.
func (d *desk) margin() api.Errno {
	a, _ := acct.Find(d.Accounts, d.c.Unit.Account)
	u, _ := need.Unit(a, d.c.Unit)
	n, e := cover.Excess(d.side(), a, u)
	if e != api.OK {
		return e
	}
	if n < 0 {
		return api.ErrMargin
	}
	return api.OK
}
