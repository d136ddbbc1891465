package rules

import (
	"slices"

	"novation/api"
	"novation/auct"
	"novation/elect"
	"novation/fall"
	"novation/give"
	"novation/member"
	"novation/phase"
	"novation/port"
	"novation/rest"
	"novation/units"
)

// failing does what is ahead of a default, and its steps.
func (d *desk) failing() api.Errno {
	switch d.c.Op {
	case api.OpElect:
		return d.run(d.unitThere, d.unitClient, d.unitEarly, d.otherThere, d.otherClient, d.elect)
	case api.OpConsent:
		return d.run(d.otherLive, d.consent)
	case api.OpDefault:
		return d.run(d.memberThere, d.days, d.fail, d.setMember, d.cancelAll)
	case api.OpPort:
		return d.run(d.port)
	case api.OpLiquidate:
		return d.run(d.memberThere, d.sell, d.setMember, d.start)
	case api.OpFill:
		return d.run(d.unitThere, d.unitSelling, d.fill, d.otherRoom)
	}
	return d.run(d.memberThere, d.shut, d.setMember, d.nothingLeft, d.waterfall, d.giveBack)
}

func (d *desk) client(u api.Unit) api.Errno {
	if a, _ := d.account(u); a.Kind == api.House {
		return api.ErrKind
	}
	return api.OK
}

func (d *desk) unitClient() api.Errno { return d.client(d.c.Unit) }

func (d *desk) otherClient() api.Errno { return d.client(d.c.Other) }

// unitPhase answers the phase of the member whose the command's unit is.
func (d *desk) unitPhase() (int, bool) {
	a, _ := d.account(d.c.Unit)
	m, ok := member.Find(d.Members, a.Member)
	return m.Phase, ok
}

func (d *desk) unitEarly() api.Errno {
	if p, ok := d.unitPhase(); !ok || p != member.Active && p != member.Window {
		return api.ErrState
	}
	return api.OK
}

func (d *desk) unitSelling() api.Errno {
	if p, ok := d.unitPhase(); !ok || p != member.Selling {
		return api.ErrState
	}
	return api.OK
}

func (d *desk) elect() (e api.Errno) {
	d.Choices, e = elect.Elect(d.Choices, d.c.Unit, d.c.Other)
	return e
}

func (d *desk) consent() (e api.Errno) {
	d.Choices, e = elect.Agree(d.Choices, d.c.Unit, d.c.Other)
	return e
}

func (d *desk) days() api.Errno {
	if d.c.Qty < 0 || d.c.Qty > api.MaxWindow {
		return api.ErrArg
	}
	return api.OK
}

func (d *desk) fail() (e api.Errno) {
	d.member, e = phase.Fail(d.member, d.Day, int(d.c.Qty))
	return e
}

// cancelAll has all come to nothing that the member's units gave up, or were to take.
func (d *desk) cancelAll() api.Errno {
	mine := units.Of(d.Accounts, d.c.Member)
	for _, g := range slices.Clone(d.Gives) {
		if g.State != give.Pending || !slices.Contains(mine, g.From) && !slices.Contains(mine, g.To) {
			continue
		}
		if e := d.end(g, give.Cancelled); e != api.OK {
			return e
		}
	}
	return api.OK
}

func (d *desk) port() api.Errno {
	s, to, e := port.Port(d.State, d.c.Unit)
	d.State = s
	d.tell(int64(to.Account), int64(to.Client))
	return e
}

func (d *desk) sell() (e api.Errno) {
	d.member, e = phase.Sell(d.member, d.Day)
	return e
}

func (d *desk) start() (e api.Errno) {
	d.State, e = auct.Start(d.State, d.c.Member)
	return e
}

func (d *desk) fill() (e api.Errno) {
	d.State, e = auct.Fill(d.State, d.c.Unit, d.c.Other, d.c.Inst, d.c.Qty, d.c.Price)
	return e
}

func (d *desk) shut() (e api.Errno) {
	d.member, e = phase.Close(d.member, d.Day)
	return e
}

func (d *desk) nothingLeft() api.Errno {
	if len(auct.Left(d.State, d.c.Member)) > 0 {
		return api.ErrBusy
	}
	return api.OK
}

func (d *desk) waterfall() (e api.Errno) {
	d.State, d.reply.Debits, e = fall.All(d.State, d.c.Member)
	return e
}

func (d *desk) giveBack() (e api.Errno) {
	d.State, d.reply.Returns, e = rest.Give(d.State, d.c.Member)
	return e
}
