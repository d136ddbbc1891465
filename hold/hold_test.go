package hold_test

import (
	"slices"
	"testing"

	"novation/api"
	"novation/hold"
	"novation/wide"
)

const most = 1<<63 - 1

func u(account, client int) api.Unit { return api.Unit{Account: account, Client: client} }

func lot(asset, tag int, qty int64) api.Lot { return api.Lot{Asset: asset, Tag: tag, Qty: qty} }

func has(unit api.Unit, l ...api.Lot) api.Hold { return api.Hold{Unit: unit, Lots: l} }

func like(a, b []api.Hold) bool {
	return slices.EqualFunc(a, b, func(x, y api.Hold) bool { return x.Unit == y.Unit && slices.Equal(x.Lots, y.Lots) })
}

func full() []api.Lot {
	var l []api.Lot
	for tag := range 16 {
		l = append(l, lot(2, tag, 5))
	}
	return l
}

func start() []api.Hold {
	return []api.Hold{has(u(1, 1), lot(1, 0, 5), lot(2, 3, 7)), has(u(2, 0), lot(1, 1, most)), has(u(3, 0), full()...)}
}

var none = [][]api.Hold{
	{has(u(1, 1))}, {has(u(1, 1), lot(1, 1, 0))}, {has(u(1, 1), lot(1, 2, 1), lot(1, 1, 1))}, {has(u(1, 2), lot(1, 1, 1)), has(u(1, 1), lot(1, 1, 1))}, {has(u(1, 1), lot(1, 1, 1)), has(u(1, 1), lot(1, 1, 1))},
}

func TestP26_1(t *testing.T) {
	if !hold.Is(nil) || !hold.Is(start()) {
		t.Error("are holds")
	}
	for _, l := range none {
		if hold.Is(l) {
			t.Error("are none", l)
		}
		a, e := hold.Put(l, u(1, 1), lot(0, 0, 0))
		b, f := hold.Take(l, u(1, 1), lot(0, 0, 0))
		c, g := hold.Set(l, u(1, 1), nil)
		d, h := hold.Move(l, u(1, 1), u(1, 1))
		x, i := hold.Pass(l, u(1, 1), u(1, 1), lot(0, 0, 0), 0)
		if len(a) > 0 || len(b) > 0 || len(c) > 0 || len(d) > 0 || len(x) > 0 || e != api.ErrForm || f != e || g != e || h != e || i != e {
			t.Error("ErrForm", l, e, f, g, h, i)
		}
	}
	l := start()
	hold.Lots(l, u(1, 1))[0].Qty = 9
	if !slices.Equal(hold.Lots(l, u(1, 1)), []api.Lot{lot(1, 0, 5), lot(2, 3, 7)}) || len(hold.Lots(l, u(1, 2))) > 0 || hold.Lots(none[4], u(1, 1))[0] != lot(1, 1, 1) {
		t.Error("Lots")
	}
	if wide.Text(hold.Total(l, 1)) != "9223372036854775812" || hold.Total(l, 2) != wide.Of(87) || hold.Total(l, 3) != wide.Of(0) {
		t.Error("Total")
	}
}

func TestP26_2(t *testing.T) {
	l := start()
	if m, e := hold.Put(l, u(1, 1), lot(1, 0, 2)); e != api.OK || !like(m, []api.Hold{has(u(1, 1), lot(1, 0, 7), lot(2, 3, 7)), l[1], l[2]}) {
		t.Error("Put", m, e)
	}
	if m, e := hold.Put(l, u(1, 9), lot(4, 255, 2)); e != api.OK || !like(m, []api.Hold{l[0], has(u(1, 9), lot(4, 255, 2)), l[1], l[2]}) {
		t.Error("Put", m, e)
	}
	if m, e := hold.Take(l, u(1, 1), lot(2, 3, 3)); e != api.OK || !like(m, []api.Hold{has(u(1, 1), lot(1, 0, 5), lot(2, 3, 4)), l[1], l[2]}) {
		t.Error("Take", m, e)
	}
	if m, e := hold.Take(l, u(2, 0), lot(1, 1, most)); e != api.OK || !like(m, []api.Hold{l[0], l[2]}) {
		t.Error("Take all", m, e)
	}
	for _, c := range []struct {
		f    func([]api.Hold, api.Unit, api.Lot) ([]api.Hold, api.Errno)
		unit api.Unit
		x    api.Lot
		e    api.Errno
	}{
		{hold.Put, u(1, 1), lot(5, 0, 1), api.ErrArg}, {hold.Put, u(2, 0), lot(1, 1, 1), api.ErrRange}, {hold.Put, u(3, 0), lot(1, 1, 1), api.ErrLimit},
		{hold.Take, u(1, 1), lot(1, 0, 0), api.ErrArg}, {hold.Take, u(1, 1), lot(1, 0, 6), api.ErrHeld}, {hold.Take, u(9, 9), lot(1, 0, 6), api.ErrHeld},
	} {
		if m, e := c.f(l, c.unit, c.x); len(m) > 0 || e != c.e {
			t.Error(c.unit, c.x, m, e)
		}
	}
	all := []api.Lot{lot(3, 3, 3)}
	m, e := hold.Set(l, u(2, 0), all)
	all[0].Qty = 9
	if e != api.OK || !like(m, []api.Hold{l[0], has(u(2, 0), lot(3, 3, 3)), l[2]}) {
		t.Error("Set", m, e)
	}
	if m, e := hold.Set(l, u(2, 0), nil); e != api.OK || !like(m, []api.Hold{l[0], l[2]}) {
		t.Error("Set to nothing", m, e)
	}
	if m, e := hold.Set(l, u(2, 5), nil); e != api.OK || !like(m, l) {
		t.Error("Set of nothing to nothing", m, e)
	}
	if m, e := hold.Set(l, u(2, 0), []api.Lot{lot(3, 3, 0)}); len(m) > 0 || e != api.ErrForm {
		t.Error("Set to none", m, e)
	}
	m, _ = hold.Put(l, u(9, 9), lot(1, 1, 1))
	n, _ := hold.Set(l, u(9, 9), nil)
	if m[0].Lots[0].Qty, n[0].Lots[0].Qty = 77, 77; !like(l, start()) {
		t.Error("changed", l)
	}
}

func TestP26_3(t *testing.T) {
	l := start()
	if m, e := hold.Move(l, u(1, 1), u(5, 0)); e != api.OK || !like(m, []api.Hold{l[1], l[2], has(u(5, 0), l[0].Lots...)}) {
		t.Error("Move", m, e)
	}
	if m, e := hold.Move(l, u(7, 7), u(5, 0)); e != api.OK || !like(m, l) {
		t.Error("Move of nothing", m, e)
	}
	if m, e := hold.Move(l, u(1, 1), u(1, 1)); len(m) > 0 || e != api.ErrSame {
		t.Error("Move to itself", m, e)
	}
	if m, e := hold.Move(l, u(7, 7), u(2, 0)); len(m) > 0 || e != api.ErrBusy {
		t.Error("Move to one that has something", m, e)
	}
	if m, e := hold.Pass(l, u(1, 1), u(2, 0), lot(2, 3, 4), 0); e != api.OK || !like(m, []api.Hold{has(u(1, 1), lot(1, 0, 5), lot(2, 3, 3)), has(u(2, 0), lot(1, 1, most), lot(2, 0, 4)), l[2]}) {
		t.Error("Pass", m, e)
	}
	for _, c := range []struct {
		from, to api.Unit
		x        api.Lot
		tag      int
		e        api.Errno
	}{
		{u(1, 1), u(1, 1), lot(0, 0, 0), 0, api.ErrSame}, {u(1, 1), u(2, 0), lot(1, 0, 0), 999, api.ErrArg}, {u(1, 1), u(2, 0), lot(1, 0, 6), -1, api.ErrHeld},
		{u(1, 1), u(2, 0), lot(1, 0, 5), 256, api.ErrArg}, {u(1, 1), u(2, 0), lot(1, 0, 5), -1, api.ErrArg}, {u(1, 1), u(2, 0), lot(1, 0, 1), 1, api.ErrRange}, {u(1, 1), u(3, 0), lot(1, 0, 5), 1, api.ErrLimit},
	} {
		if m, e := hold.Pass(l, c.from, c.to, c.x, c.tag); len(m) > 0 || e != c.e {
			t.Error("Pass", c, m, e)
		}
	}
	if !like(l, start()) {
		t.Error("changed", l)
	}
}

func TestP26_4(t *testing.T) {
	l := start()[:2]
	m, e := hold.Move(l, u(1, 1), u(1, 5))
	back, f := hold.Move(m, u(1, 5), u(1, 1))
	if e != api.OK || f != api.OK || !like(back, l) || len(hold.Lots(m, u(1, 1))) > 0 || !slices.Equal(hold.Lots(m, u(1, 5)), l[0].Lots) {
		t.Error("there and back", m, back)
	}
	p, e := hold.Pass(l, u(1, 1), u(4, 0), lot(1, 0, 3), 9)
	q, f := hold.Pass(p, u(4, 0), u(1, 1), lot(1, 9, 3), 0)
	if e != api.OK || f != api.OK || !like(q, l) {
		t.Error("there and back", p, q)
	}
	for asset := range 6 {
		if hold.Total(m, asset) != hold.Total(l, asset) || hold.Total(p, asset) != hold.Total(l, asset) {
			t.Error("Total", asset)
		}
	}
	if !slices.Equal(hold.Lots(p, u(2, 0)), l[1].Lots) {
		t.Error("somebody else's")
	}
}
