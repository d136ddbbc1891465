package rules

import (
	"novation/acct"
	"novation/api"
	"novation/asset"
	"novation/inst"
	"novation/member"
	"novation/units"
)

// table does what changes tables.
func (d *desk) table() api.Errno {
	switch d.c.Op {
	case api.OpMember:
		return d.run(d.addMember)
	case api.OpInst:
		return d.run(d.addInst)
	case api.OpAsset:
		return d.run(d.addAsset)
	case api.OpAccount:
		return d.run(d.noClient, d.memberThere, d.memberActive, d.addAccount)
	case api.OpBind:
		return d.run(d.accountActive, d.bind)
	}
	return d.run(d.memberThere, d.setCap)
}

func (d *desk) account(u api.Unit) (api.Account, bool) { return units.Account(d.Accounts, u) }

func (d *desk) addMember() (e api.Errno) {
	d.Members, e = member.Put(d.Members, api.Member{Id: d.c.Member, Cap: d.c.Qty})
	return e
}

func (d *desk) addInst() (e api.Errno) {
	d.Insts, e = inst.Put(d.Insts, api.Inst{Id: d.c.Inst, Mult: d.c.Qty, Price: d.c.Price, Next: d.c.Price, Moves: d.c.Numbers})
	return e
}

func (d *desk) addAsset() (e api.Errno) {
	d.Assets, e = asset.Put(d.Assets, api.Asset{Id: d.c.Asset, Price: d.c.Price, Haircut: d.c.Qty})
	return e
}

func (d *desk) noClient() api.Errno {
	if d.c.Unit.Client != 0 {
		return api.ErrArg
	}
	return api.OK
}

func (d *desk) memberActive() api.Errno { return member.May(d.member) }

func (d *desk) addAccount() (e api.Errno) {
	d.Accounts, e = acct.Put(d.Accounts, api.Account{Id: d.c.Unit.Account, Member: d.c.Member, Kind: d.c.Id})
	return e
}

func (d *desk) accountActive() api.Errno {
	a, ok := acct.Find(d.Accounts, d.c.Unit.Account)
	if !ok {
		return api.ErrNone
	}
	return d.active(a.Member)
}

func (d *desk) bind() api.Errno {
	a, _ := acct.Find(d.Accounts, d.c.Unit.Account)
	a, e := acct.Bind(a, d.c.Unit.Client)
	if e != api.OK {
		return e
	}
	d.Accounts, e = acct.Set(d.Accounts, a)
	return e
}

// setMember has the command's member be as it is now.
func (d *desk) setMember() (e api.Errno) {
	d.Members, e = member.Set(d.Members, d.member)
	return e
}

func (d *desk) setCap() api.Errno {
	d.member.Cap = d.c.Qty
	return d.setMember()
}
