package acct_test

import (
	"slices"
	"testing"

	"novation/acct"
	"novation/api"
)

var bad = []api.Account{
	{Id: 0, Member: 1, Kind: 2}, {Id: 17, Member: 1, Kind: 2}, {Id: 1, Member: 0, Kind: 2}, {Id: 1, Member: 9, Kind: 2}, {Id: 1, Member: 1, Kind: 0}, {Id: 1, Member: 1, Kind: 5},
	{Id: 1, Member: 1, Kind: 1, Clients: []int{1}}, {Id: 1, Member: 1, Kind: 4, Clients: []int{1, 2}}, {Id: 1, Member: 1, Kind: 2, Clients: []int{0}}, {Id: 1, Member: 1, Kind: 3, Clients: []int{17}},
	{Id: 1, Member: 1, Kind: 2, Clients: []int{2, 1}}, {Id: 1, Member: 1, Kind: 2, Clients: []int{2, 2}},
}

func like(a, b api.Account) bool {
	return a.Id == b.Id && a.Member == b.Member && a.Kind == b.Kind && slices.Equal(a.Clients, b.Clients)
}

func TestP15_1(t *testing.T) {
	for _, c := range []struct {
		a     api.Account
		units []api.Unit
	}{
		{api.Account{Id: 1, Member: 1, Kind: api.House}, []api.Unit{{Account: 1}}},
		{api.Account{Id: 16, Member: 8, Kind: api.Net}, nil},
		{api.Account{Id: 2, Member: 8, Kind: api.Net, Clients: []int{1, 16}}, []api.Unit{{Account: 2, Client: 1}, {Account: 2, Client: 16}}},
		{api.Account{Id: 3, Member: 8, Kind: api.Gross, Clients: []int{4, 5}}, []api.Unit{{Account: 3, Client: 4}, {Account: 3, Client: 5}}},
		{api.Account{Id: 4, Member: 8, Kind: api.Seg, Clients: []int{7}}, []api.Unit{{Account: 4, Client: 7}}},
	} {
		if acct.Check(c.a) != api.OK || !slices.Equal(acct.Units(c.a), c.units) {
			t.Error(c.a, acct.Units(c.a))
		}
		for id := range 18 {
			for client := range 18 {
				u := api.Unit{Account: id, Client: client}
				if acct.Has(c.a, u) != slices.Contains(c.units, u) {
					t.Error("Has", c.a, u)
				}
			}
		}
	}
	for _, a := range bad {
		if acct.Check(a) != api.ErrArg {
			t.Error("is none", a)
		}
	}
}

func TestP15_2(t *testing.T) {
	net := api.Account{Id: 1, Member: 1, Kind: api.Net, Clients: []int{3}}
	if a, e := acct.Bind(net, 7); e != api.OK || !slices.Equal(a.Clients, []int{3, 7}) {
		t.Error(a, e)
	}
	if a, e := acct.Bind(net, 1); e != api.OK || !slices.Equal(a.Clients, []int{1, 3}) || !slices.Equal(net.Clients, []int{3}) {
		t.Error(a, e)
	}
	seg := api.Account{Id: 1, Member: 1, Kind: api.Seg}
	if a, e := acct.Bind(seg, 16); e != api.OK || !slices.Equal(a.Clients, []int{16}) {
		t.Error(a, e)
	}
	seg.Clients = []int{3}
	house := api.Account{Id: 1, Member: 1, Kind: api.House}
	for _, c := range []struct {
		a      api.Account
		client int
		e      api.Errno
	}{
		{house, 1, api.ErrKind}, {house, 0, api.ErrKind}, {net, 0, api.ErrArg}, {net, 17, api.ErrArg}, {net, 3, api.ErrThere}, {seg, 3, api.ErrThere},
		{seg, 4, api.ErrFull}, {seg, 0, api.ErrArg}, {bad[0], 1, api.ErrArg}, {bad[6], 1, api.ErrArg},
	} {
		if a, e := acct.Bind(c.a, c.client); !like(a, api.Account{}) || e != c.e {
			t.Error(c, a, e)
		}
	}
}

func TestP15_3(t *testing.T) {
	clients := []int{2}
	var l []api.Account
	for _, id := range []int{5, 16, 1} {
		m, e := acct.Put(l, api.Account{Id: id, Member: 1 + id%2, Kind: api.Gross, Clients: clients})
		if e != api.OK {
			t.Error("Put", id, e)
		}
		l = m
	}
	clients[0] = 9
	if len(l) != 3 || l[0].Id != 1 || l[1].Id != 5 || l[2].Id != 16 || l[1].Clients[0] != 2 {
		t.Error("by Ids", l)
	}
	for _, a := range bad {
		if m, e := acct.Put(l, a); len(m) > 0 || e != api.ErrArg {
			t.Error("Put", a, m, e)
		}
		if m, e := acct.Set(l, a); len(m) > 0 || e != api.ErrArg {
			t.Error("Set", a, m, e)
		}
	}
	if m, e := acct.Put(l, api.Account{Id: 5, Member: 1, Kind: 1}); len(m) > 0 || e != api.ErrThere {
		t.Error("there", m, e)
	}
	if m, e := acct.Set(l, api.Account{Id: 6, Member: 1, Kind: 1}); len(m) > 0 || e != api.ErrNone {
		t.Error("Set of none", m, e)
	}
	m, e := acct.Set(l, api.Account{Id: 5, Member: 7, Kind: api.House})
	if e != api.OK || !like(m[1], api.Account{Id: 5, Member: 7, Kind: api.House}) || !like(m[0], l[0]) || l[1].Member != 2 {
		t.Error("Set", m, e)
	}
	a, ok := acct.Find(l, 16)
	if !ok || !like(a, l[2]) {
		t.Error("Find", a, ok)
	}
	if a.Clients[0] = 3; l[2].Clients[0] != 2 {
		t.Error("shared")
	}
	if a, ok := acct.Find(l, 2); ok || !like(a, api.Account{}) {
		t.Error("Find of none", a, ok)
	}
	if x := acct.Of(l, 2); len(x) != 2 || x[0].Id != 1 || x[1].Id != 5 || len(acct.Of(l, 3)) != 0 {
		t.Error("Of", x)
	}
	if acct.Owner(l, api.Unit{Account: 16, Client: 2}) != 1 || acct.Owner(l, api.Unit{Account: 16, Client: 3}) != 0 || acct.Owner(l, api.Unit{}) != 0 || acct.Owner(nil, api.Unit{Account: 1}) != 0 {
		t.Error("Owner")
	}
	if acct.Owner([]api.Account{{Id: 1, Member: 3, Kind: 1}, {Id: 1, Member: 4, Kind: 1}}, api.Unit{Account: 1}) != 3 {
		t.Error("the first one's")
	}
	for a := range 9 {
		for b := range 9 {
			if acct.Less(api.Unit{Account: a / 3, Client: a % 3}, api.Unit{Account: b / 3, Client: b % 3}) != (a < b) {
				t.Error("Less", a, b)
			}
		}
	}
}

func TestP15_4(t *testing.T) {
	a := api.Account{Id: 3, Member: 1, Kind: api.Net}
	for _, c := range []int{9, 1, 16, 4} {
		b, e := acct.Bind(a, c)
		if e != api.OK || acct.Check(b) != api.OK || !acct.Has(b, api.Unit{Account: 3, Client: c}) {
			t.Error("not bound", c, e)
		}
		for _, u := range acct.Units(b) {
			if acct.Has(api.Account{Id: 4, Member: 1, Kind: api.Net, Clients: b.Clients}, u) {
				t.Error("another account's", u)
			}
		}
		a = b
	}
}

func TestP15_3_First(t *testing.T) {
	l := []api.Account{{Id: 1, Member: 2, Kind: api.Net, Clients: []int{3}}}
	if a, ok := acct.Find(l, 1); !ok || a.Member != 2 {
		t.Error("Find the first", a, ok)
	}
	if x, e := acct.Put(l, api.Account{Id: 1, Member: 2, Kind: api.Net}); len(x) > 0 || e != api.ErrThere {
		t.Error("the first is there", x, e)
	}
	clients := []int{4}
	set, e := acct.Set(l, api.Account{Id: 1, Member: 5, Kind: api.Gross, Clients: clients})
	if e != api.OK || set[0].Member != 5 || l[0].Member != 2 {
		t.Error("Set the first", set, e)
	}
	put, _ := acct.Put(l, api.Account{Id: 2, Member: 5, Kind: api.Gross, Clients: clients})
	other, _ := acct.Set(put, api.Account{Id: 2, Member: 6, Kind: api.House})
	of := acct.Of(l, 2)
	if l[0].Clients[0], clients[0] = 9, 9; set[0].Clients[0] != 4 || put[0].Clients[0] != 3 || put[1].Clients[0] != 4 || of[0].Clients[0] != 3 {
		t.Error("shared", set, put, of)
	}
	if put[0].Clients[0] = 8; other[0].Clients[0] != 3 {
		t.Error("shared", other)
	}
}
