package lots_test

import (
	"slices"
	"testing"

	"novation/api"
	"novation/lots"
	"novation/wide"
)

const least, most = -1 << 63, 1<<63 - 1

type list = []api.Lot

func lot(asset, tag int, qty int64) api.Lot { return api.Lot{Asset: asset, Tag: tag, Qty: qty} }

func full() list {
	var l list
	for tag := range 16 {
		l = append(l, lot(2, 10*tag, 5))
	}
	return l
}

var bad = list{lot(0, 1, 1), lot(5, 1, 1), lot(1, -1, 1), lot(1, 256, 1), lot(1, 1, 0), lot(1, 1, -1)}

func none() []list {
	l := []list{{lot(1, 2, 1), lot(1, 1, 1)}, {lot(1, 2, 1), lot(1, 2, 1)}, {lot(2, 1, 1), lot(1, 2, 1)}, append(full(), lot(3, 0, 1))}
	for _, x := range bad {
		l = append(l, list{x})
	}
	return l
}

func TestP18_1(t *testing.T) {
	for _, l := range []list{nil, full(), {lot(1, 0, 1), lot(1, 255, most), lot(4, 0, 1)}} {
		if !lots.Is(l) {
			t.Error("are lots", l)
		}
	}
	for _, l := range none() {
		if lots.Is(l) {
			t.Error("are none", l)
		}
		if m, e := lots.Put(l, lot(0, 0, 0)); len(m) > 0 || e != api.ErrForm {
			t.Error("Put", l, m, e)
		}
		if m, e := lots.Take(l, lot(0, 0, 0)); len(m) > 0 || e != api.ErrForm {
			t.Error("Take", l, m, e)
		}
		if m, n, e := lots.Draw(l, 1, -1); len(m) > 0 || len(n) > 0 || e != api.ErrForm {
			t.Error("Draw", l, m, n, e)
		}
	}
	l := list{lot(1, 0, most), lot(1, 3, most), lot(2, 3, 7)}
	if wide.Text(lots.Sum(l, 1)) != "18446744073709551614" || lots.Sum(l, 2) != wide.Of(7) || lots.Sum(l, 3) != wide.Of(0) {
		t.Error("Sum")
	}
	if lots.Get(l, 2, 3) != 7 || lots.Get(l, 2, 4) != 0 || lots.Get(l, 3, 3) != 0 || lots.Get(list{lot(1, 1, 4), lot(1, 1, 5)}, 1, 1) != 4 {
		t.Error("Get")
	}
}

func TestP18_2(t *testing.T) {
	l := list{lot(1, 2, 5), lot(2, 0, most)}
	for _, c := range []struct {
		name string
		f    func(l []api.Lot, lot api.Lot) ([]api.Lot, api.Errno)
		l    list
		x    api.Lot
		want list
		e    api.Errno
	}{
		{"Put", lots.Put, l, lot(1, 2, 4), list{lot(1, 2, 9), l[1]}, api.OK},
		{"Put", lots.Put, l, lot(1, 1, 4), list{lot(1, 1, 4), l[0], l[1]}, api.OK},
		{"Put", lots.Put, l, lot(2, 255, 4), list{l[0], l[1], lot(2, 255, 4)}, api.OK},
		{"Put", lots.Put, nil, lot(4, 0, most), list{lot(4, 0, most)}, api.OK},
		{"Put", lots.Put, l, lot(2, 0, 1), nil, api.ErrRange},
		{"Put", lots.Put, full(), lot(1, 0, 1), nil, api.ErrLimit},
		{"Put", lots.Put, full(), lot(2, 0, most), nil, api.ErrRange},
		{"Take", lots.Take, l, lot(1, 2, 4), list{lot(1, 2, 1), l[1]}, api.OK},
		{"Take", lots.Take, l, lot(1, 2, 5), l[1:], api.OK},
		{"Take", lots.Take, l, lot(1, 2, 6), nil, api.ErrHeld},
		{"Take", lots.Take, l, lot(1, 3, 1), nil, api.ErrHeld},
		{"Take", lots.Take, nil, lot(1, 3, most), nil, api.ErrHeld},
	} {
		if m, e := c.f(c.l, c.x); !slices.Equal(m, c.want) || e != c.e {
			t.Error(c.name, c.l, c.x, m, e)
		}
	}
	for _, x := range bad {
		if m, e := lots.Put(full(), x); len(m) > 0 || e != api.ErrArg {
			t.Error("Put", x, m, e)
		}
		if m, e := lots.Take(nil, x); len(m) > 0 || e != api.ErrArg {
			t.Error("Take", x, m, e)
		}
	}
	if m, e := lots.Put(full(), lot(2, 150, 1)); e != api.OK || lots.Get(m, 2, 150) != 6 || len(m) != 16 {
		t.Error("one of sixteen", m, e)
	}
	if !slices.Equal(l, list{lot(1, 2, 5), lot(2, 0, most)}) {
		t.Error("changed", l)
	}
}

func TestP18_3(t *testing.T) {
	l := list{lot(1, 0, 5), lot(1, 3, 4), lot(2, 0, 9)}
	big := list{lot(1, 0, most), lot(1, 3, most)}
	for _, c := range []struct {
		l           list
		asset       int
		qty         int64
		drawn, left list
		e           api.Errno
	}{
		{l, 1, 7, list{lot(1, 0, 5), lot(1, 3, 2)}, list{lot(1, 3, 2), lot(2, 0, 9)}, api.OK},
		{l, 1, 9, l[:2], l[2:], api.OK},
		{l, 1, 3, list{lot(1, 0, 3)}, list{lot(1, 0, 2), lot(1, 3, 4), lot(2, 0, 9)}, api.OK},
		{l, 1, 0, nil, l, api.OK},
		{l, 7, 0, nil, l, api.OK},
		{l, 1, 10, nil, nil, api.ErrHeld},
		{l, 3, 1, nil, nil, api.ErrHeld},
		{l, 1, -1, nil, nil, api.ErrArg},
		{l, 7, least, nil, nil, api.ErrArg},
		{big, 1, most, big[:1], big[1:], api.OK},
	} {
		if m, n, e := lots.Draw(c.l, c.asset, c.qty); !slices.Equal(m, c.drawn) || !slices.Equal(n, c.left) || e != c.e {
			t.Error("Draw", c.l, c.asset, c.qty, m, n, e)
		}
	}
	for _, c := range []struct {
		l    []list
		want list
		e    api.Errno
	}{
		{nil, nil, api.OK}, {[]list{l, nil, {lot(1, 3, 1), lot(1, 2, 1)}}, list{lot(1, 0, 5), lot(1, 2, 1), lot(1, 3, 5), lot(2, 0, 9)}, api.OK},
		{[]list{big, {lot(1, 0, 1)}, {bad[0]}}, nil, api.ErrRange}, {[]list{{bad[0]}, big, big}, nil, api.ErrArg}, {[]list{full(), {lot(1, 1, 1)}}, nil, api.ErrLimit},
	} {
		if m, e := lots.Join(c.l...); !slices.Equal(m, c.want) || e != c.e {
			t.Error("Join", c.l, m, e)
		}
	}
}

func TestP18_4(t *testing.T) {
	l := list{lot(1, 0, 5), lot(1, 3, 4), lot(2, 0, 9)}
	for asset := 1; asset < 5; asset++ {
		for tag := range 5 {
			x := lot(asset, tag, 3)
			m, e := lots.Put(l, x)
			back, f := lots.Take(m, x)
			if e != api.OK || f != api.OK || !lots.Is(m) || !slices.Equal(back, l) {
				t.Error("Put, Take", x, m, back)
			}
		}
		for qty := range int64(9) {
			drawn, left, e := lots.Draw(l, asset, qty)
			if e != api.OK {
				continue
			}
			if all, e := lots.Join(drawn, left); e != api.OK || !slices.Equal(all, l) || lots.Sum(drawn, asset) != wide.Of(qty) {
				t.Error("Draw", asset, qty, drawn, left)
			}
		}
	}
}
