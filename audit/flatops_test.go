package audit_test

import (
	"maps"
	"math/big"
	"slices"

	"novation/api"
)

func priced(p int64) bool { return p >= 0 && p <= api.MaxPrice }

func (f *flat) tables(c api.Command) {
	switch c.Op {
	case api.OpMember:
		must(c.Member > 0 && c.Qty >= 0 && c.Qty <= 1<<62, api.ErrArg)
		_, ok := f.members[c.Member]
		must(!ok, api.ErrThere)
		f.members[c.Member] = api.Member{Id: c.Member, Cap: c.Qty}
	case api.OpInst:
		must(c.Inst > 0 && c.Qty >= 1 && c.Qty <= 1<<16 && priced(c.Price) && len(c.Numbers) <= 8, api.ErrArg)
		for _, n := range c.Numbers {
			must(n >= -api.MaxPrice && n <= api.MaxPrice, api.ErrArg)
		}
		_, ok := f.insts[c.Inst]
		must(!ok, api.ErrThere)
		f.insts[c.Inst] = api.Inst{Id: c.Inst, Mult: c.Qty, Price: c.Price, Next: c.Price, Moves: c.Numbers}
	case api.OpAsset:
		must(c.Asset > 0 && priced(c.Price) && c.Qty >= 0 && c.Qty <= 10000, api.ErrArg)
		_, ok := f.assets[c.Asset]
		must(!ok, api.ErrThere)
		f.assets[c.Asset] = api.Asset{Id: c.Asset, Price: c.Price, Haircut: c.Qty}
	case api.OpAccount:
		must(c.Unit.Client == 0, api.ErrArg)
		f.member(c.Member)
		f.active(c.Member)
		must(c.Unit.Account > 0 && c.Id >= 1 && c.Id <= 4, api.ErrArg)
		_, ok := f.accounts[c.Unit.Account]
		must(!ok, api.ErrThere)
		f.accounts[c.Unit.Account] = api.Account{Id: c.Unit.Account, Member: c.Member, Kind: c.Id}
	case api.OpBind:
		a, ok := f.accounts[c.Unit.Account]
		must(ok, api.ErrNone)
		f.active(a.Member)
		must(a.Kind != api.House, api.ErrKind)
		must(c.Unit.Client > 0, api.ErrArg)
		must(!slices.Contains(a.Clients, c.Unit.Client), api.ErrThere)
		must(a.Kind != api.Seg || len(a.Clients) == 0, api.ErrFull)
		a.Clients = append(slices.Clone(a.Clients), c.Unit.Client)
		f.accounts[a.Id] = a
	case api.OpCap:
		m := f.member(c.Member)
		must(c.Qty >= 0 && c.Qty <= 1<<62, api.ErrArg)
		m.Cap = c.Qty
		f.members[m.Id] = m
	}
}

func (f *flat) trades(c api.Command) {
	switch c.Op {
	case api.OpTrade:
		f.live(c.Unit)
		f.live(c.Other)
		f.inst(c.Inst)
		must(c.Qty >= 1, api.ErrArg)
		f.deal(c.Other, c.Unit, c.Inst, c.Qty, c.Price)
		f.room(c.Unit)
		f.room(c.Other)
	case api.OpGive:
		f.live(c.Unit)
		f.live(c.Other)
		f.inst(c.Inst)
		must(c.Qty >= -api.MaxQty && c.Qty <= api.MaxQty && priced(c.Price), api.ErrArg)
		f.offer(api.Give{From: c.Unit, To: c.Other, Leg: api.Leg{Inst: c.Inst, Qty: c.Qty}, Price: c.Price})
	case api.OpAccept:
		g := f.give(c.Id)
		f.live(g.From)
		f.live(g.To)
		f.end(g, 2)
		f.deal(g.From, g.To, g.Leg.Inst, g.Leg.Qty, g.Price)
		f.room(g.From)
		f.room(g.To)
	case api.OpReject:
		f.end(f.give(c.Id), 3)
	case api.OpCancel:
		f.end(f.give(c.Id), 4)
	case api.OpBlock:
		f.block(c)
	case api.OpAlloc:
		must(c.Id >= 1 && c.Id <= len(f.groups), api.ErrNone)
		g := &f.groups[c.Id-1]
		f.live(g.Unit)
		f.live(c.Other)
		must(c.Qty != 0 && (c.Qty > 0 || g.Left <= 0) && (c.Qty < 0 || g.Left >= 0), api.ErrArg)
		must(c.Qty < 0 && c.Qty >= g.Left || c.Qty > 0 && c.Qty <= g.Left, api.ErrHeld)
		g.Left -= c.Qty
		f.offer(api.Give{From: g.Unit, To: c.Other, Leg: api.Leg{Inst: g.Inst, Qty: c.Qty}, Price: g.Price, Group: g.Id})
	}
}

func (f *flat) block(c api.Command) {
	f.live(c.Unit)
	i := f.inst(c.Inst)
	n := len(c.Numbers)
	must(n >= 2 && n%2 == 0, api.ErrArg)
	all, cost := int64(0), new(big.Int)
	for k := 0; k < n; k += 2 {
		q, p := c.Numbers[k], c.Numbers[k+1]
		must(q != 0 && q >= -api.MaxQty && q <= api.MaxQty && priced(p) && (q > 0) == (c.Numbers[0] > 0), api.ErrArg)
		all, cost = all+q, plus(cost, times(bigs(q), p))
	}
	must(all >= -api.MaxQty && all <= api.MaxQty, api.ErrLimit)
	price, rest := new(big.Int).QuoRem(cost, bigs(all), new(big.Int))
	must(len(f.groups) < 64, api.ErrLimit)
	g := api.Group{Id: len(f.groups) + 1, Unit: c.Unit, Inst: c.Inst, Price: price.Int64(), Left: all}
	f.groups = append(f.groups, g)
	f.move(treasury, c.Unit, times(rest, i.Mult))
	f.tell(int64(g.Id), g.Price, times(rest, i.Mult).Int64())
}

func (f *flat) keeps(c api.Command) {
	k := [2]int{c.Asset, c.Tag}
	switch c.Op {
	case api.OpMark:
		i := f.inst(c.Inst)
		must(priced(c.Price), api.ErrArg)
		i.Next = c.Price
		f.insts[i.Id] = i
	case api.OpValue:
		a, ok := f.assets[c.Asset]
		must(ok, api.ErrNone)
		must(priced(c.Price), api.ErrArg)
		a.Price = c.Price
		f.assets[a.Id] = a
	case api.OpDay:
		f.nextDay()
	case api.OpDeposit:
		if c.Unit != fund {
			f.live(c.Unit)
		}
		must(c.Qty >= 1 && (c.Asset > 0 || c.Tag == 0), api.ErrArg)
		if c.Asset == 0 {
			f.pay(c.Unit, bigs(c.Qty))
			return
		}
		_, ok := f.assets[c.Asset]
		must(ok, api.ErrNone)
		put(f.lots, c.Unit, k, bigs(c.Qty))
		must(len(f.lots[c.Unit]) <= 16, api.ErrLimit)
	case api.OpWithdraw:
		f.live(c.Unit)
		must(c.Qty >= 1 && (c.Asset > 0 || c.Tag == 0), api.ErrArg)
		if c.Asset == 0 {
			must(f.money(c.Unit).Cmp(bigs(c.Qty)) >= 0, api.ErrHeld)
			f.pay(c.Unit, bigs(-c.Qty))
		} else {
			must(of(f.lots, c.Unit, k).Cmp(bigs(c.Qty)) >= 0, api.ErrHeld)
			put(f.lots, c.Unit, k, bigs(-c.Qty))
		}
		a := f.there(c.Unit)
		u := c.Unit
		if a.Kind == api.Net {
			u.Client = 0
		}
		must(f.excess(a, u) >= 0, api.ErrMargin)
	}
}

func (f *flat) nextDay() {
	must(f.day < api.MaxDays, api.ErrLimit)
	for _, l := range []map[api.Unit]map[int]*big.Int{f.pos, f.sale} {
		for u, legs := range l {
			all := new(big.Int)
			for id, n := range legs {
				i := f.insts[id]
				all = plus(all, times(n, i.Next-i.Price, i.Mult))
			}
			long(all)
			f.pay(u, all)
		}
	}
	for id, i := range f.insts {
		i.Price = i.Next
		f.insts[id] = i
	}
	f.day++
	for i := range f.gives {
		if g := &f.gives[i]; g.State == 1 && g.Day < f.day {
			f.end(g, 5)
		}
	}
	f.tell(int64(f.day))
}

func (f *flat) client(u api.Unit) { must(f.there(u).Kind != api.House, api.ErrKind) }

func (f *flat) fails(c api.Command) {
	m := f.members[c.Member]
	switch c.Op {
	case api.OpElect:
		f.client(c.Unit)
		must(f.members[f.there(c.Unit).Member].Phase <= 1, api.ErrState)
		f.client(c.Other)
		must(c.Unit != c.Other, api.ErrSame)
		f.choices[c.Unit] = api.Choice{From: c.Unit, To: c.Other}
	case api.OpConsent:
		f.live(c.Other)
		x, ok := f.choices[c.Unit]
		must(ok, api.ErrElect)
		must(x.To == c.Other, api.ErrNone)
		x.Consent = true
		f.choices[c.Unit] = x
	case api.OpDefault:
		f.member(c.Member)
		must(c.Qty >= 0 && c.Qty <= 16, api.ErrArg)
		must(m.Phase == 0, api.ErrState)
		m.Phase, m.Until = 1, f.day+int(c.Qty)
		for i := range f.gives {
			if g := &f.gives[i]; g.State == 1 && (slices.Contains(f.mine(m.Id), g.From) || slices.Contains(f.mine(m.Id), g.To)) {
				f.end(g, 4)
			}
		}
	case api.OpPort:
		f.port(c.Unit)
		return
	case api.OpLiquidate:
		f.member(c.Member)
		must(m.Phase == 1, api.ErrState)
		must(f.day > m.Until, api.ErrWindow)
		m.Phase = 2
		for _, u := range f.mine(m.Id) {
			for id, n := range f.pos[u] {
				put(f.sale, u, id, n)
			}
			delete(f.pos, u)
		}
	case api.OpFill:
		f.fill(c)
		return
	case api.OpClose:
		f.member(c.Member)
		must(m.Phase == 2, api.ErrState)
		for _, u := range f.mine(m.Id) {
			must(len(f.sale[u]) == 0, api.ErrBusy)
		}
		m.Phase = 3
		f.fall(m.Id)
		f.back(m.Id)
	}
	if m.Id > 0 {
		f.members[m.Id] = m
	}
}

func (f *flat) port(from api.Unit) {
	f.client(from)
	m := f.members[f.there(from).Member]
	must(m.Phase == 1 && f.day <= m.Until, api.ErrWindow)
	x, ok := f.choices[from]
	must(ok, api.ErrElect)
	must(x.Consent, api.ErrConsent)
	f.client(x.To)
	other := f.members[f.there(x.To).Member]
	must(other.Phase == 0, api.ErrFrozen)
	must(len(f.pos[x.To]) == 0 && f.money(x.To).Sign() == 0 && len(f.lots[x.To]) == 0, api.ErrBusy)
	more, used := f.held(from), f.held(f.mine(other.Id)...)
	must(plus(bigs(more), bigs(used)).Cmp(bigs(other.Cap)) <= 0, api.ErrCap)
	for id, n := range f.pos[from] {
		put(f.pos, x.To, id, n)
	}
	f.move(from, x.To, f.money(from))
	for k, n := range f.lots[from] {
		put(f.lots, x.To, k, n)
	}
	delete(f.pos, from)
	delete(f.lots, from)
	delete(f.choices, from)
	f.tell(int64(x.To.Account), int64(x.To.Client))
}

func (f *flat) fill(c api.Command) {
	must(f.members[f.there(c.Unit).Member].Phase == 2, api.ErrState)
	i := f.inst(c.Inst)
	must(c.Qty != 0 && priced(c.Price), api.ErrArg)
	has := of(f.sale, c.Unit, c.Inst)
	must(has.Sign() == bigs(c.Qty).Sign() && has.CmpAbs(bigs(c.Qty)) >= 0, api.ErrHeld)
	must(f.there(c.Other).Kind == api.House, api.ErrKind)
	f.live(c.Other)
	gain := times(bigs(c.Qty), i.Price-c.Price, i.Mult)
	long(gain)
	put(f.sale, c.Unit, c.Inst, bigs(-c.Qty))
	put(f.pos, c.Other, c.Inst, bigs(c.Qty))
	f.move(c.Unit, c.Other, gain)
	f.room(c.Other)
}

func (f *flat) asks(c api.Command) {
	switch c.Op {
	case api.OpPosition:
		f.there(c.Unit)
		for _, id := range slices.Sorted(maps.Keys(f.pos[c.Unit])) {
			f.tell(int64(id), f.pos[c.Unit][id].Int64())
		}
	case api.OpCash:
		if c.Unit != fund && c.Unit != treasury {
			f.there(c.Unit)
		}
		f.tell(f.money(c.Unit).Int64())
	case api.OpNeed, api.OpExcess:
		a, ok := f.accounts[c.Unit.Account]
		must(ok, api.ErrNone)
		n, _ := f.need(a, c.Unit)
		if c.Op == api.OpExcess {
			n = f.excess(a, c.Unit)
		}
		f.tell(n)
	case api.OpCalls:
		for _, id := range slices.Sorted(maps.Keys(f.accounts)) {
			l, _ := margins(f.accounts[id])
			for _, u := range l {
				if n := f.excess(f.accounts[id], u); n < 0 {
					f.tell(int64(u.Account), int64(u.Client), n)
				}
			}
		}
	case api.OpPhase:
		m := f.member(c.Member)
		f.tell(int64(m.Phase), int64(m.Until), f.held(f.mine(m.Id)...))
	}
}
