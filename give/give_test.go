package give_test

import (
	"slices"
	"testing"

	"novation/api"
	"novation/give"
)

func u(account, client int) api.Unit { return api.Unit{Account: account, Client: client} }

func one(from, to api.Unit) api.Give {
	return api.Give{From: from, To: to, Leg: api.Leg{Inst: 1, Qty: -3}, Price: 5, Group: 2}
}

func TestP23_1(t *testing.T) {
	if give.Pending != 1 || give.Accepted != 2 || give.Rejected != 3 || give.Cancelled != 4 || give.Expired != 5 {
		t.Error("states")
	}
	g := one(u(1, 1), u(1, 2))
	g.Id, g.Day, g.State = 9, 9, 9
	var l []api.Give
	for i := range api.MaxGives {
		m, id, e := give.New(l, g, i)
		want := one(u(1, 1), u(1, 2))
		want.Id, want.Day, want.State = i+1, i+8, give.Pending
		if id != i+1 || e != api.OK || len(m) != i+1 || m[i] != want {
			t.Error("New", i, m, id, e)
		}
		l = m
	}
	zero := g
	zero.Leg.Qty = 0
	for _, c := range []struct {
		l   []api.Give
		g   api.Give
		day int
		e   api.Errno
	}{
		{l, api.Give{From: u(1, 1), To: u(1, 1)}, -1, api.ErrSame}, {l, zero, 1, api.ErrArg}, {l, g, -1, api.ErrArg}, {l, g, api.MaxDays + 1, api.ErrArg}, {l, g, api.MaxDays, api.ErrLimit},
	} {
		if m, id, e := give.New(c.l, c.g, c.day); len(m) > 0 || id != 0 || e != c.e {
			t.Error("New", c.g, c.day, id, e)
		}
	}
	if m, _, e := give.New(nil, g, api.MaxDays); e != api.OK || m[0].Day != api.MaxDays+8 {
		t.Error("the last day", m, e)
	}
	if x, ok := give.Find(l, 7); !ok || x != l[6] {
		t.Error("Find", x, ok)
	}
	if x, ok := give.Find(l, 65); ok || x != (api.Give{}) {
		t.Error("Find of none", x, ok)
	}
}

func TestP23_1_NewMemory(t *testing.T) {
	l := make([]api.Give, 1, 9)
	l[0] = api.Give{Id: 4}
	a, x, _ := give.New(l, one(u(1, 1), u(1, 2)), 0)
	b, y, _ := give.New(l, one(u(2, 1), u(2, 2)), 0)
	if x != 5 || y != 5 || a[1].From != u(1, 1) || b[1].From != u(2, 1) || l[:2][1] != (api.Give{}) {
		t.Error("shared", a, b)
	}
	a[0].Id = 77
	if l[0].Id != 4 || b[0].Id != 4 {
		t.Error("shared", l)
	}
}

func TestP23_2(t *testing.T) {
	var l []api.Give
	for i := range 5 {
		l, _, _ = give.New(l, one(u(1, i), u(2, 0)), i)
	}
	for state := 2; state <= 5; state++ {
		m, e := give.Turn(l, 3, state)
		want := l[2]
		want.State = state
		if e != api.OK || m[2] != want || l[2].State != give.Pending || !slices.Equal(m[:2], l[:2]) || !slices.Equal(m[3:], l[3:]) {
			t.Error("Turn", state, m, e)
		}
	}
	done, _ := give.Turn(l, 3, give.Accepted)
	for _, c := range []struct {
		id, state int
		e         api.Errno
	}{{6, 0, api.ErrNone}, {0, 2, api.ErrNone}, {1, 1, api.ErrArg}, {1, 6, api.ErrArg}, {3, 0, api.ErrArg}, {3, 4, api.ErrState}, {3, 2, api.ErrState}} {
		if m, e := give.Turn(done, c.id, c.state); len(m) > 0 || e != c.e {
			t.Error("Turn", c, m, e)
		}
	}
	for day, want := range map[int][]int{8: nil, 9: {1}, 11: {1, 2}, 12: {1, 2, 4}, 99: {1, 2, 4, 5}} {
		if x := give.Late(done, day); !slices.Equal(x, want) {
			t.Error("Late", day, x)
		}
	}
	if x := give.Of(done, u(2, 0)); !slices.Equal(x, []int{1, 2, 4, 5}) {
		t.Error("Of", x)
	}
	if x := give.Of(done, u(1, 3)); !slices.Equal(x, []int{4}) {
		t.Error("Of", x)
	}
	if len(give.Of(done, u(1, 2))) != 0 || len(give.Of(done, u(7, 2))) != 0 || len(give.Late(nil, 4)) != 0 {
		t.Error("Of none")
	}
}

func TestP23_3(t *testing.T) {
	l, _, _ := give.New(nil, one(u(1, 1), u(2, 0)), 0)
	for first := 2; first <= 5; first++ {
		m, _ := give.Turn(l, 1, first)
		for then := 2; then <= 5; then++ {
			if x, e := give.Turn(m, 1, then); len(x) > 0 || e != api.ErrState {
				t.Error(first, then, e)
			}
		}
		n, id, _ := give.New(m, one(u(1, 1), u(2, 0)), 3)
		if id != 2 || n[0] != m[0] || len(give.Late(n, 9)) != 0 {
			t.Error("Ids rise", n)
		}
	}
}

func TestP23_First(t *testing.T) {
	l, _, _ := give.New(nil, one(u(1, 1), u(2, 0)), 0)
	if g, ok := give.Find(l, 1); !ok || g != l[0] {
		t.Error("Find the first", g, ok)
	}
}
