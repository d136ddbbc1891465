package elect_test

import (
	"slices"
	"testing"

	"novation/api"
	"novation/elect"
)

func u(account, client int) api.Unit { return api.Unit{Account: account, Client: client} }

func c(from, to api.Unit, consent bool) api.Choice {
	return api.Choice{From: from, To: to, Consent: consent}
}

var none = [][]api.Choice{
	{c(u(1, 2), u(1, 2), false)}, {c(u(1, 2), u(3, 2), false), c(u(1, 2), u(4, 2), false)}, {c(u(1, 2), u(3, 2), false), c(u(1, 1), u(4, 2), false)},
	{c(u(2, 1), u(3, 2), false), c(u(1, 3), u(4, 2), false)},
}

func TestP16_1(t *testing.T) {
	l := []api.Choice{c(u(1, 2), u(3, 2), true), c(u(1, 3), u(3, 2), false), c(u(2, 1), u(1, 2), false)}
	if !elect.Is(nil) || !elect.Is(l) {
		t.Error("are choices")
	}
	for _, l := range none {
		if elect.Is(l) {
			t.Error("are none", l)
		}
		if m, e := elect.Elect(l, u(1, 2), u(1, 2)); len(m) > 0 || e != api.ErrForm {
			t.Error("Elect", m, e)
		}
		if m, e := elect.Agree(l, u(9, 2), u(1, 2)); len(m) > 0 || e != api.ErrForm {
			t.Error("Agree", m, e)
		}
	}
	if x, ok := elect.Find(l, u(1, 3)); !ok || x != l[1] {
		t.Error("Find", x, ok)
	}
	if x, ok := elect.Find(none[1], u(1, 2)); !ok || x != none[1][0] {
		t.Error("Find the first", x, ok)
	}
	if x, ok := elect.Find(l, u(3, 1)); ok || x != (api.Choice{}) {
		t.Error("Find of none", x, ok)
	}
	if m, e := elect.Elect(l, u(1, 2), u(1, 2)); len(m) > 0 || e != api.ErrSame {
		t.Error("Elect itself", m, e)
	}
	m, e := elect.Elect(l, u(1, 2), u(4, 2))
	if e != api.OK || !slices.Equal(m, []api.Choice{c(u(1, 2), u(4, 2), false), l[1], l[2]}) || !l[0].Consent {
		t.Error("Elect anew", m, e)
	}
	for _, from := range []api.Unit{u(0, 0), u(1, 1), u(1, 9), u(2, 0), u(5, 5)} {
		m, e := elect.Elect(l, from, u(4, 2))
		if x, ok := elect.Find(m, from); e != api.OK || len(m) != 4 || !elect.Is(m) || !ok || x.To != u(4, 2) || x.Consent {
			t.Error("Elect", from, m, e)
		}
	}
}

func TestP16_2(t *testing.T) {
	l := []api.Choice{c(u(1, 2), u(3, 2), false), c(u(1, 3), u(3, 2), true)}
	m, e := elect.Agree(l, u(1, 2), u(3, 2))
	if e != api.OK || !slices.Equal(m, []api.Choice{c(u(1, 2), u(3, 2), true), l[1]}) || l[0].Consent {
		t.Error("Agree", m, e)
	}
	if m, e := elect.Agree(l, u(1, 4), u(3, 2)); len(m) > 0 || e != api.ErrElect {
		t.Error("Agree to nothing", m, e)
	}
	if m, e := elect.Agree(l, u(1, 2), u(3, 3)); len(m) > 0 || e != api.ErrNone {
		t.Error("Agree to another one", m, e)
	}
	if x, e := elect.Ready(m, u(1, 2)); x != u(3, 2) || e != api.OK {
		t.Error("Ready", x, e)
	}
	if x, e := elect.Ready(l, u(1, 2)); x != u(0, 0) || e != api.ErrConsent {
		t.Error("Ready without consent", x, e)
	}
	if x, e := elect.Ready(l, u(3, 2)); x != u(0, 0) || e != api.ErrElect {
		t.Error("Ready of none", x, e)
	}
	if x := elect.Drop(l, u(1, 2)); !slices.Equal(x, l[1:]) || len(l) != 2 || l[0].From != u(1, 2) {
		t.Error("Drop", x)
	}
	if x := elect.Drop(l, u(3, 2)); !slices.Equal(x, l) {
		t.Error("Drop of none", x)
	}
	if x := elect.Drop(none[1], u(1, 2)); len(x) != 0 {
		t.Error("Drop all of one", x)
	}
}

func TestP16_3(t *testing.T) {
	l, _ := elect.Elect(nil, u(1, 2), u(3, 2))
	l, _ = elect.Agree(l, u(1, 2), u(3, 2))
	l, _ = elect.Elect(l, u(1, 1), u(3, 3))
	if x, e := elect.Ready(l, u(1, 2)); x != u(3, 2) || e != api.OK {
		t.Error("somebody else's", x, e)
	}
	l, _ = elect.Elect(l, u(1, 2), u(4, 2))
	if x, e := elect.Ready(l, u(1, 2)); x != u(0, 0) || e != api.ErrConsent || !elect.Is(l) {
		t.Error("anew", x, e)
	}
}
