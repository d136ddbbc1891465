package asset_test

import (
	"slices"
	"testing"

	"novation/api"
	"novation/asset"
)

const least, most = -1 << 63, 1<<63 - 1

var bad = []api.Asset{{Id: 0}, {Id: -1}, {Id: 5}, {Id: 1, Price: -1}, {Id: 1, Price: 1 << 31}, {Id: 1, Haircut: -1}, {Id: 1, Haircut: 10001}}

func TestP12_1(t *testing.T) {
	for _, a := range []api.Asset{{Id: 1}, {Id: 4, Price: 1<<31 - 1, Haircut: 10000}} {
		if asset.Check(a) != api.OK {
			t.Error("is one", a)
		}
	}
	for _, a := range bad {
		if asset.Check(a) != api.ErrArg {
			t.Error("is none", a)
		}
		if l, e := asset.Put([]api.Asset{{Id: 1}}, a); len(l) > 0 || e != api.ErrArg {
			t.Error("Put", a, l, e)
		}
	}
	var l []api.Asset
	for _, id := range []int{3, 1, 4, 2} {
		old := slices.Clone(l)
		m, e := asset.Put(l, api.Asset{Id: id, Price: int64(id)})
		if e != api.OK || !slices.Equal(old, l) {
			t.Error("Put", id, e)
		}
		l = m
	}
	if !slices.Equal(l, []api.Asset{{Id: 1, Price: 1}, {Id: 2, Price: 2}, {Id: 3, Price: 3}, {Id: 4, Price: 4}}) {
		t.Error("not by Ids", l)
	}
	if m, e := asset.Put(l, api.Asset{Id: 3}); len(m) > 0 || e != api.ErrThere {
		t.Error("there", m, e)
	}
	if a, ok := asset.Find(l, 3); !ok || a.Price != 3 {
		t.Error("Find", a, ok)
	}
	if a, ok := asset.Find(l, 5); ok || a != (api.Asset{}) {
		t.Error("Find of none", a, ok)
	}
	m, e := asset.Priced(l, 2, 1<<31-1)
	if e != api.OK || m[1] != (api.Asset{Id: 2, Price: 1<<31 - 1}) || l[1].Price != 2 {
		t.Error("Priced", m, e)
	}
	for _, c := range []struct {
		id    int
		price int64
		e     api.Errno
	}{{5, 1, api.ErrNone}, {5, -1, api.ErrNone}, {2, -1, api.ErrArg}, {2, 1 << 31, api.ErrArg}} {
		if m, e := asset.Priced(l, c.id, c.price); len(m) > 0 || e != c.e {
			t.Error("Priced", c, m, e)
		}
	}
}

func TestP12_2(t *testing.T) {
	a := api.Asset{Id: 1, Price: 3, Haircut: 1000}
	free := api.Asset{Id: 1}
	for _, c := range []struct {
		name string
		f    func(a api.Asset, n int64) (int64, api.Errno)
		a    api.Asset
		n    int64
		want int64
		e    api.Errno
	}{
		{"Worth", asset.Worth, a, 10, 30, api.OK}, {"Worth", asset.Worth, a, -10, -30, api.OK}, {"Worth", asset.Worth, a, most, 0, api.ErrRange},
		{"Worth", asset.Worth, a, least, 0, api.ErrRange}, {"Worth", asset.Worth, free, most, 0, api.OK},
		{"Count", asset.Count, a, 10, 27, api.OK}, {"Count", asset.Count, a, 1, 2, api.OK}, {"Count", asset.Count, a, -1, 0, api.ErrArg},
		{"Count", asset.Count, a, most, 0, api.ErrRange}, {"Count", asset.Count, api.Asset{Id: 1, Price: 3, Haircut: 10000}, 9, 0, api.OK},
		{"Count", asset.Count, api.Asset{Id: 1, Price: 1}, most, most, api.OK},
		{"Sell", asset.Sell, a, 31, 11, api.OK}, {"Sell", asset.Sell, a, 30, 10, api.OK}, {"Sell", asset.Sell, a, 0, 0, api.OK}, {"Sell", asset.Sell, a, least, 0, api.OK},
		{"Sell", asset.Sell, free, 1, 0, api.ErrZero}, {"Sell", asset.Sell, free, 0, 0, api.OK}, {"Sell", asset.Sell, free, -1, 0, api.OK}, {"Sell", asset.Sell, api.Asset{Id: 1, Price: 1}, most, most, api.OK},
	} {
		if n, e := c.f(c.a, c.n); n != c.want || e != c.e {
			t.Error(c.name, c.a, c.n, n, e)
		}
	}
	for _, a := range bad {
		for _, f := range []func(a api.Asset, n int64) (int64, api.Errno){asset.Worth, asset.Count, asset.Sell} {
			if n, e := f(a, -1); n != 0 || e != api.ErrArg {
				t.Error("of none", a, n, e)
			}
		}
	}
}

func TestP12_3(t *testing.T) {
	for _, price := range []int64{1, 3, 7, 1000, 1<<31 - 1} {
		for _, cut := range []int64{0, 1, 333, 9999, 10000} {
			a := api.Asset{Id: 2, Price: price, Haircut: cut}
			last := int64(0)
			for qty := range int64(200) {
				worth, _ := asset.Worth(a, qty)
				counted, e := asset.Count(a, qty)
				if counted > worth || counted < last || e != api.OK {
					t.Error("Count", a, qty, counted)
				}
				last = counted
				n, e := asset.Sell(a, qty*17)
				all, _ := asset.Worth(a, n)
				less, _ := asset.Worth(a, n-1)
				if e != api.OK || n < 0 || all < qty*17 || n > 0 && less >= qty*17 {
					t.Error("Sell", a, qty*17, n)
				}
			}
		}
	}
}

func TestP12_1_First(t *testing.T) {
	l := make([]api.Asset, 1, 4)
	l[0] = api.Asset{Id: 1, Price: 5}
	if a, ok := asset.Find(l, 1); !ok || a.Price != 5 {
		t.Error("Find the first", a, ok)
	}
	if m, e := asset.Priced(l, 1, 7); e != api.OK || m[0].Price != 7 || l[0].Price != 5 {
		t.Error("Priced the first", m, e)
	}
	if m, e := asset.Priced(l, 1, 0); e != api.OK || m[0].Price != 0 {
		t.Error("a price of nothing", m, e)
	}
	if m, e := asset.Put(l, api.Asset{Id: 1}); len(m) > 0 || e != api.ErrThere {
		t.Error("the first is there", m, e)
	}
	a, _ := asset.Put(l, api.Asset{Id: 2})
	if b, _ := asset.Put(l, api.Asset{Id: 3}); a[1].Id != 2 || b[1].Id != 3 || l[:2][1].Id != 0 {
		t.Error("shared", a, b)
	}
}
