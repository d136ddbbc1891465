package rules

import (
	"novation/acct"
	"novation/api"
	"novation/book"
	"novation/cover"
	"novation/fall"
	"novation/need"
	"novation/port"
	"novation/purse"
)

// asking does what changes nothing.
func (d *desk) asking() api.Errno {
	switch d.c.Op {
	case api.OpPosition:
		return d.run(d.unitThere, d.tellPosition)
	case api.OpCash:
		return d.run(d.ownerThere, d.tellCash)
	case api.OpNeed:
		return d.run(d.accountThere, d.tellNeed)
	case api.OpExcess:
		return d.run(d.accountThere, d.tellExcess)
	case api.OpCalls:
		return d.run(d.tellCalls)
	}
	return d.run(d.memberThere, d.tellPhase)
}

func (d *desk) tellPosition() api.Errno {
	for _, leg := range book.Of(d.Book, d.c.Unit) {
		d.tell(int64(leg.Inst), leg.Qty)
	}
	return api.OK
}

// ownerThere is unitThere, but the fund and the treasury are there too.
func (d *desk) ownerThere() api.Errno {
	if d.c.Unit == fall.Fund() || d.c.Unit == fall.Treasury() {
		return api.OK
	}
	return d.unitThere()
}

func (d *desk) tellCash() api.Errno {
	d.tell(purse.Get(d.Purse, d.c.Unit))
	return api.OK
}

func (d *desk) accountThere() api.Errno {
	if _, ok := acct.Find(d.Accounts, d.c.Unit.Account); !ok {
		return api.ErrNone
	}
	return api.OK
}

func (d *desk) tellNeed() api.Errno {
	a, _ := acct.Find(d.Accounts, d.c.Unit.Account)
	n, e := need.Of(d.Insts, d.Book, a, d.c.Unit)
	d.tell(n)
	return e
}

func (d *desk) tellExcess() api.Errno {
	a, _ := acct.Find(d.Accounts, d.c.Unit.Account)
	n, e := cover.Excess(d.side(), a, d.c.Unit)
	d.tell(n)
	return e
}

func (d *desk) tellCalls() api.Errno {
	l, e := cover.Calls(d.side(), d.Accounts)
	for _, f := range l {
		d.tell(int64(f.Unit.Account), int64(f.Unit.Client), f.Amount)
	}
	return e
}

func (d *desk) tellPhase() api.Errno {
	used, e := port.Used(d.State, d.member.Id)
	d.tell(int64(d.member.Phase), int64(d.member.Until), used)
	return e
}
