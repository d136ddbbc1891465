package deal_test

import (
	"slices"
	"testing"

	"novation/api"
	"novation/book"
	"novation/deal"
	"novation/purse"
	"novation/vec"
	"novation/wide"
)

const least, most = -1 << 63, 1<<63 - 1

func u(account, client int) api.Unit { return api.Unit{Account: account, Client: client} }

func f(account, client int, amount int64) api.Flow {
	return api.Flow{Unit: u(account, client), Amount: amount}
}

func pos(unit api.Unit, inst int, qty int64) api.Pos {
	return api.Pos{Unit: unit, Legs: []api.Leg{{Inst: inst, Qty: qty}}}
}

func like(a, b deal.Desk) bool {
	return slices.Equal(a.Purse, b.Purse) && slices.EqualFunc(a.Book, b.Book, func(x, y api.Pos) bool { return x.Unit == y.Unit && vec.Same(x.Legs, y.Legs) })
}

var ten = api.Inst{Id: 1, Mult: 10, Price: 7}

func TestP21_1(t *testing.T) {
	a, b := u(1, 1), u(2, 0)
	d, e := deal.At(deal.Desk{}, ten, a, b, 3, 5)
	if e != api.OK || !like(d, deal.Desk{[]api.Pos{pos(a, 1, -3), pos(b, 1, 3)}, []api.Flow{f(1, 1, -60), f(2, 0, 60)}}) {
		t.Error("At", d, e)
	}
	d, e = deal.At(d, ten, a, b, -1, 10)
	if e != api.OK || !like(d, deal.Desk{[]api.Pos{pos(a, 1, -2), pos(b, 1, 2)}, []api.Flow{f(1, 1, -90), f(2, 0, 90)}}) {
		t.Error("At", d, e)
	}
	if !deal.Is(d) || !deal.Is(deal.Desk{}) || deal.Is(deal.Desk{Purse: []api.Flow{{}}}) || deal.Is(deal.Desk{Book: []api.Pos{{}}}) {
		t.Error("Is")
	}
	for _, price := range []int64{0, 1<<31 - 1} {
		if x, e := deal.At(deal.Desk{}, ten, a, b, 1, price); e != api.OK || purse.Get(x.Purse, b) != 10*(7-price) {
			t.Error("the least and the most price", price, e)
		}
	}
	for _, q := range []int64{api.MaxQty, -api.MaxQty} {
		if _, e := deal.At(deal.Desk{}, ten, a, b, q, 8); e != api.OK {
			t.Error("the most", q, e)
		}
	}
}

func TestP21_1_Errors(t *testing.T) {
	a, b := u(1, 1), u(2, 0)
	bad := deal.Desk{Purse: []api.Flow{{}}}
	rich := deal.Desk{Purse: []api.Flow{f(2, 0, most)}}
	much := deal.Desk{Book: []api.Pos{pos(b, 1, most)}, Purse: rich.Purse}
	none := api.Inst{Id: 1, Price: 7}
	for _, c := range []struct {
		d          deal.Desk
		i          api.Inst
		to         api.Unit
		qty, price int64
		e          api.Errno
	}{
		{bad, none, a, 0, -1, api.ErrForm}, {deal.Desk{Book: []api.Pos{{}}}, none, a, 0, -1, api.ErrForm}, {deal.Desk{}, none, a, 1, 1, api.ErrArg}, {deal.Desk{}, ten, a, 0, 1, api.ErrArg},
		{deal.Desk{}, ten, a, api.MaxQty + 1, 1, api.ErrArg}, {deal.Desk{}, ten, a, -api.MaxQty - 1, 1, api.ErrArg}, {deal.Desk{}, ten, a, least, 1, api.ErrArg}, {deal.Desk{}, ten, a, 1, -1, api.ErrArg}, {deal.Desk{}, ten, a, 1, 1 << 31, api.ErrArg},
		{deal.Desk{}, ten, a, 1, 1, api.ErrSame}, {rich, ten, b, 1, 6, api.ErrRange}, {much, ten, b, 1, 7, api.ErrRange},
		{deal.Desk{}, api.Inst{Id: 1, Mult: 1 << 16, Price: 1<<31 - 1}, b, api.MaxQty, 0, api.ErrRange},
	} {
		if d, e := deal.At(c.d, c.i, a, c.to, c.qty, c.price); !like(d, deal.Desk{}) || e != c.e {
			t.Error("At", c, d, e)
		}
	}
}

func TestP21_2(t *testing.T) {
	for _, c := range []struct {
		i                api.Inst
		qty, price, want int64
		e                api.Errno
	}{
		{ten, 3, 5, 150, api.OK}, {ten, -3, 5, -150, api.OK}, {ten, 0, 5, 0, api.OK}, {ten, 3, -1, 0, api.ErrArg}, {ten, 3, 1 << 31, 0, api.ErrArg},
		{ten, most, 1, 0, api.ErrRange}, {api.Inst{}, 1, 1, 0, api.ErrArg},
	} {
		if n, e := deal.Cost(c.i, c.qty, c.price); n != c.want || e != c.e {
			t.Error("Cost", c, n, e)
		}
	}
}

func TestP21_3(t *testing.T) {
	start := deal.Desk{[]api.Pos{pos(u(1, 1), 1, 4), pos(u(3, 1), 1, -4)}, []api.Flow{f(0, 0, 9), f(3, 1, -2)}}
	for _, qty := range []int64{-9, -4, 1, 4} {
		for price := range int64(12) {
			d, e := deal.At(start, ten, u(1, 1), u(2, 2), qty, price)
			if e != api.OK || !book.Balanced(d.Book) || purse.Total(d.Purse) != wide.Of(7) || purse.Get(d.Purse, u(3, 1)) != -2 || !vec.Same(book.Of(d.Book, u(3, 1)), start.Book[1].Legs) {
				t.Error("At", qty, price, d, e)
			}
			if price == ten.Price && !slices.Equal(d.Purse, start.Purse) {
				t.Error("cash goes at its Price", d)
			}
			if back, e := deal.At(d, ten, u(2, 2), u(1, 1), qty, price); e != api.OK || !like(back, start) {
				t.Error("there and back", back, e)
			}
		}
	}
}
