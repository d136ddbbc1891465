package audit_test

import (
	"maps"
	"math/big"
	"slices"

	"novation/api"
	"novation/cmd"
)

// flat is a model of the whole, of numbers without bounds, that knows nothing of the layers: what is refused is a panic of an error.
type flat struct {
	day      int
	members  map[int]api.Member
	insts    map[int]api.Inst
	assets   map[int]api.Asset
	accounts map[int]api.Account
	choices  map[api.Unit]api.Choice
	groups   []api.Group
	gives    []api.Give
	pos      map[api.Unit]map[int]*big.Int
	sale     map[api.Unit]map[int]*big.Int
	cash     map[api.Unit]*big.Int
	lots     map[api.Unit]map[[2]int]*big.Int
	reply    api.Reply
}

func newFlat() *flat {
	return &flat{
		members: map[int]api.Member{}, insts: map[int]api.Inst{}, assets: map[int]api.Asset{}, accounts: map[int]api.Account{}, choices: map[api.Unit]api.Choice{},
		pos: map[api.Unit]map[int]*big.Int{}, sale: map[api.Unit]map[int]*big.Int{}, cash: map[api.Unit]*big.Int{}, lots: map[api.Unit]map[[2]int]*big.Int{},
	}
}

func deep[K, L comparable](m map[K]map[L]*big.Int) map[K]map[L]*big.Int {
	out := map[K]map[L]*big.Int{}
	for k, x := range m {
		out[k] = maps.Clone(x)
	}
	return out
}

func (f *flat) clone() *flat {
	g := *f
	g.members, g.insts, g.assets, g.accounts, g.choices, g.cash = maps.Clone(f.members), maps.Clone(f.insts), maps.Clone(f.assets), maps.Clone(f.accounts), maps.Clone(f.choices), maps.Clone(f.cash)
	g.groups, g.gives = slices.Clone(f.groups), slices.Clone(f.gives)
	g.pos, g.sale, g.lots = deep(f.pos), deep(f.sale), deep(f.lots)
	g.reply = api.Reply{}
	return &g
}

func must(ok bool, e api.Errno) {
	if !ok {
		panic(e)
	}
}

func bigs(n int64) *big.Int { return big.NewInt(n) }

func plus(a, b *big.Int) *big.Int { return new(big.Int).Add(a, b) }

func less(a, b *big.Int) *big.Int { return new(big.Int).Sub(a, b) }

func times(a *big.Int, l ...int64) *big.Int {
	for _, n := range l {
		a = new(big.Int).Mul(a, bigs(n))
	}
	return a
}

func least(a, b *big.Int) *big.Int {
	if a.Cmp(b) < 0 {
		return a
	}
	return b
}

func up(a *big.Int, d int64) *big.Int {
	q, m := new(big.Int).DivMod(a, bigs(d), new(big.Int))
	if m.Sign() != 0 {
		q = plus(q, bigs(1))
	}
	return q
}

// long answers a number of 64 bits, or refuses it.
func long(n *big.Int) int64 {
	must(n.IsInt64(), api.ErrRange)
	return n.Int64()
}

// of answers what a map has, or nothing.
func of[K, L comparable](m map[K]map[L]*big.Int, k K, l L) *big.Int {
	if n, ok := m[k][l]; ok {
		return n
	}
	return new(big.Int)
}

// put adds to what a map has.
func put[K, L comparable](m map[K]map[L]*big.Int, k K, l L, more *big.Int) {
	n := plus(of(m, k, l), more)
	long(n)
	if m[k] == nil {
		m[k] = map[L]*big.Int{}
	}
	if m[k][l] = n; n.Sign() == 0 {
		delete(m[k], l)
	}
	if len(m[k]) == 0 {
		delete(m, k)
	}
}

func (f *flat) money(u api.Unit) *big.Int {
	if n, ok := f.cash[u]; ok {
		return n
	}
	return new(big.Int)
}

func (f *flat) pay(u api.Unit, more *big.Int) {
	n := plus(f.money(u), more)
	long(n)
	f.cash[u] = n
}

// move has cash go; both sides are told first.
func (f *flat) move(from, to api.Unit, n *big.Int) {
	long(less(new(big.Int), n))
	if from != to {
		f.pay(from, less(new(big.Int), n))
		f.pay(to, n)
	}
}

func (f *flat) account(u api.Unit) (api.Account, bool) {
	a, ok := f.accounts[u.Account]
	if !ok || a.Kind == api.House && u.Client != 0 || a.Kind != api.House && !slices.Contains(a.Clients, u.Client) {
		return api.Account{}, false
	}
	return a, true
}

func (f *flat) there(u api.Unit) api.Account {
	a, ok := f.account(u)
	must(ok, api.ErrNone)
	return a
}

func (f *flat) active(id int) { must(f.members[id].Phase == 0, api.ErrFrozen) }

func (f *flat) live(u api.Unit) { f.active(f.there(u).Member) }

func (f *flat) inst(id int) api.Inst {
	i, ok := f.insts[id]
	must(ok, api.ErrNone)
	return i
}

func (f *flat) member(id int) api.Member {
	m, ok := f.members[id]
	must(ok, api.ErrNone)
	return m
}

func parts(a api.Account) []api.Unit {
	if a.Kind == api.House {
		return []api.Unit{{Account: a.Id}}
	}
	var l []api.Unit
	for _, c := range slices.Sorted(slices.Values(a.Clients)) {
		l = append(l, api.Unit{Account: a.Id, Client: c})
	}
	return l
}

func (f *flat) owned(member int) []api.Account {
	var l []api.Account
	for _, id := range slices.Sorted(maps.Keys(f.accounts)) {
		if f.accounts[id].Member == member {
			l = append(l, f.accounts[id])
		}
	}
	return l
}

func (f *flat) mine(member int) []api.Unit {
	var l []api.Unit
	for _, a := range f.owned(member) {
		l = append(l, parts(a)...)
	}
	return l
}

func (f *flat) held(l ...api.Unit) int64 {
	all := new(big.Int)
	for _, u := range l {
		one := new(big.Int)
		for _, n := range f.pos[u] {
			one = plus(one, new(big.Int).Abs(n))
		}
		all = plus(all, bigs(long(one)))
	}
	return long(all)
}

func (f *flat) room(u api.Unit) {
	m := f.members[f.there(u).Member]
	must(f.held(f.mine(m.Id)...) <= m.Cap, api.ErrCap)
}

func (f *flat) deal(from, to api.Unit, id int, qty, price int64) {
	i := f.inst(id)
	must(price >= 0 && price <= api.MaxPrice && qty != 0 && qty >= -api.MaxQty && qty <= api.MaxQty, api.ErrArg)
	must(from != to, api.ErrSame)
	gain := times(bigs(qty), i.Price-price, i.Mult)
	long(gain)
	put(f.pos, from, id, bigs(-qty))
	put(f.pos, to, id, bigs(qty))
	f.move(from, to, gain)
}

func (f *flat) tell(l ...int64) { f.reply.Numbers = append(f.reply.Numbers, l...) }

func (f *flat) offer(g api.Give) {
	must(g.From != g.To, api.ErrSame)
	must(g.Leg.Qty != 0, api.ErrArg)
	must(len(f.gives) < 64, api.ErrLimit)
	g.Id, g.Day, g.State = len(f.gives)+1, f.day+8, 1
	f.gives = append(f.gives, g)
	f.tell(int64(g.Id))
}

func (f *flat) give(id int) *api.Give {
	must(id >= 1 && id <= len(f.gives), api.ErrNone)
	return &f.gives[id-1]
}

func (f *flat) end(g *api.Give, state int) {
	must(g.State == 1, api.ErrState)
	if g.State = state; g.Group > 0 && state != 2 {
		f.groups[g.Group-1].Left += g.Leg.Qty
	}
}

func (f *flat) worth(u api.Unit) *big.Int {
	all := new(big.Int)
	for k, n := range f.lots[u] {
		all = plus(all, bigs(long(times(n, f.assets[k[0]].Price))))
	}
	return bigs(long(all))
}

func (f *flat) value(u api.Unit) *big.Int {
	all := f.money(u)
	for k, n := range f.lots[u] {
		a := f.assets[k[0]]
		worth := times(n, a.Price)
		long(worth)
		all = plus(all, new(big.Int).Div(times(worth, api.MaxRate-a.Haircut), bigs(api.MaxRate)))
	}
	return bigs(long(all))
}

// margins answers the margin units of an account, and of which units each consists.
func margins(a api.Account) ([]api.Unit, [][]api.Unit) {
	if a.Kind == api.Net {
		return []api.Unit{{Account: a.Id}}, [][]api.Unit{parts(a)}
	}
	var each [][]api.Unit
	for _, u := range parts(a) {
		each = append(each, []api.Unit{u})
	}
	return parts(a), each
}

func (f *flat) need(a api.Account, u api.Unit) (int64, []api.Unit) {
	l, each := margins(a)
	at := slices.Index(l, u)
	must(at >= 0, api.ErrNone)
	most := new(big.Int)
	for scen := range 8 {
		loss := new(big.Int)
		for _, p := range each[at] {
			for id, n := range f.pos[p] {
				if i := f.insts[id]; scen < len(i.Moves) {
					loss = less(loss, times(n, i.Moves[scen], i.Mult))
				}
			}
		}
		if loss.Cmp(most) > 0 {
			most = loss
		}
	}
	for id := range 9 {
		net := new(big.Int)
		for _, p := range each[at] {
			net = plus(net, of(f.pos, p, id))
		}
		long(net)
	}
	return long(most), each[at]
}

func (f *flat) excess(a api.Account, u api.Unit) int64 {
	n, l := f.need(a, u)
	all := bigs(-n)
	for _, p := range l {
		all = plus(all, f.value(p))
	}
	return long(all)
}

var fund, treasury = api.Unit{}, api.Unit{Client: 1}

// sell has a unit sell till it has so much cash.
func (f *flat) sell(u api.Unit, cash *big.Int) {
	keys := slices.SortedFunc(maps.Keys(f.lots[u]), func(a, b [2]int) int { return slices.Compare(a[:], b[:]) })
	for _, k := range keys {
		missing := less(cash, f.money(u))
		long(missing)
		price := f.assets[k[0]].Price
		if missing.Sign() <= 0 || price == 0 {
			continue
		}
		n := least(up(missing, price), of(f.lots, u, k))
		long(times(n, price))
		put(f.lots, u, k, less(new(big.Int), n))
		put(f.lots, treasury, [2]int{k[0], 0}, n)
		f.move(treasury, u, times(n, price))
	}
}

func (f *flat) owes(u api.Unit) *big.Int {
	if f.money(u).Sign() >= 0 {
		return new(big.Int)
	}
	return bigs(long(new(big.Int).Neg(f.money(u))))
}

func (f *flat) can(u api.Unit) *big.Int {
	n := bigs(long(plus(f.worth(u), f.money(u))))
	if n.Sign() < 0 {
		return new(big.Int)
	}
	return n
}

func (f *flat) debit(by, to api.Unit, n *big.Int) {
	if n.Sign() == 0 {
		return
	}
	f.sell(by, n)
	f.move(by, to, n)
	f.reply.Debits = append(f.reply.Debits, api.Debit{By: by, For: to, Amount: n.Int64()})
}

// split answers a total as parts by weights, the largest remainders first.
func split(total *big.Int, weights []*big.Int) []*big.Int {
	sum, left := new(big.Int), total
	for _, w := range weights {
		sum = plus(sum, w)
	}
	out, rest := make([]*big.Int, len(weights)), make([]*big.Int, len(weights))
	for i, w := range weights {
		out[i], rest[i] = new(big.Int), new(big.Int)
		if sum.Sign() > 0 {
			out[i].DivMod(new(big.Int).Mul(total, w), sum, rest[i])
		}
		left = less(left, out[i])
	}
	for ; left.Sign() > 0; left = less(left, bigs(1)) {
		most := 0
		for i := range rest {
			if rest[i].Cmp(rest[most]) > 0 {
				most = i
			}
		}
		out[most], rest[most] = plus(out[most], bigs(1)), bigs(-1)
	}
	return out
}

func (f *flat) shared(l []api.Unit) {
	owes, rooms := make([]*big.Int, len(l)), make([]*big.Int, len(l))
	loss, most := new(big.Int), new(big.Int)
	for i, u := range l {
		owes[i] = f.owes(u)
		loss = plus(loss, owes[i])
	}
	long(loss)
	for i, u := range l {
		if rooms[i] = f.can(u); owes[i].Sign() > 0 {
			rooms[i] = new(big.Int)
		}
		most = plus(most, rooms[i])
	}
	long(most)
	paid := least(loss, most)
	from, to := split(paid, rooms), split(paid, owes)
	for i := range l {
		for j := range l {
			n := least(from[i], to[j])
			from[i], to[j] = less(from[i], n), less(to[j], n)
			f.debit(l[i], l[j], n)
		}
	}
}

func (f *flat) fall(id int) {
	for _, u := range f.mine(id) {
		before := f.owes(u)
		f.sell(u, new(big.Int))
		if n := less(before, f.owes(u)); n.Sign() > 0 {
			f.reply.Debits = append(f.reply.Debits, api.Debit{By: u, For: u, Amount: n.Int64()})
		}
	}
	var houses []api.Unit
	for _, a := range f.owned(id) {
		if a.Kind == api.Net {
			f.shared(parts(a))
		}
		if a.Kind == api.House {
			houses = append(houses, parts(a)...)
		}
	}
	for _, by := range [][]api.Unit{houses, {fund}} {
		for _, u := range f.mine(id) {
			for _, h := range by {
				if n := least(f.owes(u), f.can(h)); h != u {
					f.debit(h, u, n)
				}
			}
		}
	}
}

func (f *flat) back(id int) {
	for _, u := range f.mine(id) {
		r := api.Return{Unit: u}
		if f.money(u).Sign() > 0 {
			r.Cash = f.money(u).Int64()
			delete(f.cash, u)
		}
		for _, k := range slices.SortedFunc(maps.Keys(f.lots[u]), func(a, b [2]int) int { return slices.Compare(a[:], b[:]) }) {
			r.Lots = append(r.Lots, api.Lot{Asset: k[0], Tag: k[1], Qty: f.lots[u][k].Int64()})
		}
		if delete(f.lots, u); r.Cash > 0 || len(r.Lots) > 0 {
			f.reply.Returns = append(f.reply.Returns, r)
		}
	}
}

func (f *flat) auth(c api.Command) {
	if c.By == 0 {
		return
	}
	_, ok := f.members[c.By]
	must(ok, api.ErrAuth)
	f.active(c.By)
	owns := func(u api.Unit) bool {
		a, _ := f.account(u)
		return a.Member == c.By
	}
	g := api.Give{From: api.Unit{Account: -1}, To: api.Unit{Account: -1}}
	if c.Id >= 1 && c.Id <= len(f.gives) {
		g = f.gives[c.Id-1]
	}
	ok = false
	switch c.Op {
	case api.OpBind, api.OpNeed, api.OpExcess:
		ok = f.accounts[c.Unit.Account].Member == c.By
	case api.OpTrade:
		ok = owns(c.Unit) || owns(c.Other)
	case api.OpGive, api.OpBlock, api.OpDeposit, api.OpWithdraw, api.OpElect, api.OpPosition, api.OpCash:
		ok = owns(c.Unit)
	case api.OpAccept, api.OpReject:
		ok = owns(g.To)
	case api.OpCancel:
		ok = owns(g.From)
	case api.OpAlloc:
		ok = c.Id >= 1 && c.Id <= len(f.groups) && owns(f.groups[c.Id-1].Unit)
	case api.OpConsent:
		ok = owns(c.Other)
	case api.OpPhase:
		ok = c.Member == c.By
	}
	must(ok, api.ErrAuth)
}

// apply answers the model behind a command, and its reply.
func (f *flat) apply(c api.Command) (out *flat, r api.Reply) {
	g := f.clone()
	defer func() {
		if x := recover(); x != nil {
			out, r = f, api.Reply{Err: x.(api.Errno)}
		}
	}()
	must(cmd.Check(c) == api.OK, api.ErrForm)
	g.auth(c)
	switch {
	case c.Op <= api.OpCap:
		g.tables(c)
	case c.Op <= api.OpAlloc:
		g.trades(c)
	case c.Op <= api.OpWithdraw:
		g.keeps(c)
	case c.Op <= api.OpClose:
		g.fails(c)
	default:
		g.asks(c)
	}
	return g, g.reply
}
