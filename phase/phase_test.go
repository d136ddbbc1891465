package phase_test

import (
	"testing"

	"novation/api"
	"novation/member"
	"novation/phase"
)

func one(phase, until int) api.Member {
	return api.Member{Id: 3, Cap: 5, Phase: phase, Until: until}
}

func TestP28_1(t *testing.T) {
	bad := api.Member{Id: 9, Phase: 1}
	for _, c := range []struct {
		name      string
		m         api.Member
		day, days int
		want      api.Member
		e         api.Errno
	}{
		{"Fail", one(0, 0), 5, 2, one(1, 7), api.OK}, {"Fail", one(0, 9), 0, 0, one(1, 0), api.OK}, {"Fail", one(0, 0), api.MaxDays, 16, one(1, api.MaxDays+16), api.OK},
		{"Fail", bad, 5, 2, api.Member{}, api.ErrArg}, {"Fail", one(1, 0), -1, 2, api.Member{}, api.ErrArg}, {"Fail", one(0, 0), api.MaxDays + 1, 2, api.Member{}, api.ErrArg},
		{"Fail", one(1, 0), 5, 17, api.Member{}, api.ErrArg}, {"Fail", one(1, 0), 5, -1, api.Member{}, api.ErrArg}, {"Fail", one(1, 0), 5, 2, api.Member{}, api.ErrState},
		{"Fail", one(2, 0), 5, 2, api.Member{}, api.ErrState}, {"Fail", one(3, 0), 5, 2, api.Member{}, api.ErrState},
		{"Sell", one(1, 7), 8, 0, one(2, 7), api.OK}, {"Sell", one(1, 7), 7, 0, api.Member{}, api.ErrWindow}, {"Sell", one(0, 7), 7, 0, api.Member{}, api.ErrState},
		{"Sell", one(2, 7), 8, 0, api.Member{}, api.ErrState}, {"Sell", one(3, 7), 8, 0, api.Member{}, api.ErrState}, {"Sell", bad, 8, 0, api.Member{}, api.ErrArg},
		{"Sell", one(2, 7), -1, 0, api.Member{}, api.ErrArg}, {"Sell", one(1, 7), api.MaxDays + 1, 0, api.Member{}, api.ErrArg}, {"Sell", one(1, 7), api.MaxDays, 0, one(2, 7), api.OK},
		{"Close", one(2, 7), 0, 0, one(3, 7), api.OK}, {"Close", one(0, 7), 9, 0, api.Member{}, api.ErrState}, {"Close", one(1, 7), 9, 0, api.Member{}, api.ErrState},
		{"Close", one(3, 7), 9, 0, api.Member{}, api.ErrState}, {"Close", bad, 9, 0, api.Member{}, api.ErrArg}, {"Close", one(3, 7), -1, 0, api.Member{}, api.ErrArg}, {"Close", one(2, 7), api.MaxDays + 1, 0, api.Member{}, api.ErrArg},
	} {
		var m api.Member
		var e api.Errno
		switch c.name {
		case "Fail":
			m, e = phase.Fail(c.m, c.day, c.days)
		case "Sell":
			m, e = phase.Sell(c.m, c.day)
		default:
			m, e = phase.Close(c.m, c.day)
		}
		if m != c.want || e != c.e {
			t.Error(c, m, e)
		}
	}
}

func TestP28_2(t *testing.T) {
	m, _ := phase.Fail(one(0, 0), 5, 2)
	for day, soon := range map[int]int{5: 3, 6: 2, 7: 1, 8: 0, 9: 0, 1 << 40: 0} {
		want := api.OK
		if soon == 0 {
			want = api.ErrWindow
		}
		if phase.Open(m, day) != want || phase.Soon(m, day) != soon {
			t.Error("Open, Soon", day)
		}
	}
	if _, e := phase.Sell(m, 7); e != api.ErrWindow {
		t.Error("Sell on 7", e)
	}
	if _, e := phase.Sell(m, 8); e != api.OK {
		t.Error("Sell on 8", e)
	}
}

func TestP28_3(t *testing.T) {
	for p := range 4 {
		m := one(p, 7)
		if (phase.Open(m, 3) == api.OK) != (p == member.Window) || (phase.Soon(m, 3) > 0) != (p == member.Window) {
			t.Error("open", p)
		}
		for _, f := range []func() (api.Member, api.Errno){
			func() (api.Member, api.Errno) { return phase.Fail(m, 9, 1) }, func() (api.Member, api.Errno) { return phase.Sell(m, 9) }, func() (api.Member, api.Errno) { return phase.Close(m, 9) },
		} {
			if n, e := f(); e == api.OK && (n.Phase != p+1 || member.Check(n) != api.OK) {
				t.Error("not one by one", m, n)
			}
		}
	}
}
