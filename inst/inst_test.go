package inst_test

import (
	"math/big"
	"slices"
	"testing"

	"novation/api"
	"novation/inst"
	"novation/wide"
)

const least, most, high = -1 << 63, 1<<63 - 1, 1<<31 - 1

var bad = []api.Inst{
	{Id: 0, Mult: 1}, {Id: 9, Mult: 1}, {Id: 1, Mult: 0}, {Id: 1, Mult: 1<<16 + 1}, {Id: 1, Mult: 1, Price: -1}, {Id: 1, Mult: 1, Price: 1 << 31},
	{Id: 1, Mult: 1, Next: -1}, {Id: 1, Mult: 1, Next: 1 << 31}, {Id: 1, Mult: 1, Moves: make([]int64, 9)}, {Id: 1, Mult: 1, Moves: []int64{0, 1 << 31}}, {Id: 1, Mult: 1, Moves: []int64{-1 << 31}},
}

func like(a, b api.Inst) bool {
	return a.Id == b.Id && a.Mult == b.Mult && a.Price == b.Price && a.Next == b.Next && slices.Equal(a.Moves, b.Moves)
}

func TestP13_1(t *testing.T) {
	for _, i := range []api.Inst{{Id: 1, Mult: 1}, {Id: 8, Mult: 1 << 16, Price: high, Next: high, Moves: []int64{high, -high, 0, 0, 0, 0, 0, 1}}} {
		if inst.Check(i) != api.OK {
			t.Error("is one", i)
		}
	}
	for _, i := range bad {
		if inst.Check(i) != api.ErrArg {
			t.Error("is none", i)
		}
		if l, e := inst.Put([]api.Inst{{Id: 1, Mult: 1}}, i); len(l) > 0 || e != api.ErrArg {
			t.Error("Put", i, l, e)
		}
	}
	var l []api.Inst
	moves := []int64{7}
	for _, id := range []int{3, 8, 1} {
		m, e := inst.Put(l, api.Inst{Id: id, Mult: 2, Price: 4, Next: 5, Moves: moves})
		if e != api.OK || len(m) != len(l)+1 {
			t.Error("Put", id, e)
		}
		l = m
	}
	moves[0] = 9
	for i, id := range []int{1, 3, 8} {
		if !like(l[i], api.Inst{Id: id, Mult: 2, Price: 4, Next: 5, Moves: []int64{7}}) {
			t.Error("by Ids", l)
		}
	}
	if m, e := inst.Put(l, api.Inst{Id: 3, Mult: 1}); len(m) > 0 || e != api.ErrThere {
		t.Error("there", m, e)
	}
	x, ok := inst.Find(l, 3)
	if !ok || !like(x, l[1]) {
		t.Error("Find", x, ok)
	}
	if x, ok := inst.Find(l, 2); ok || !like(x, api.Inst{}) {
		t.Error("Find of none", x, ok)
	}
	if x.Moves[0] = 1; l[1].Moves[0] != 7 {
		t.Error("shared")
	}
}

func TestP13_1_Prices(t *testing.T) {
	l := []api.Inst{{Id: 1, Mult: 1, Price: 3, Next: 4}, {Id: 2, Mult: 1, Price: 5, Next: 6, Moves: []int64{1}}}
	m, e := inst.Next(l, 2, high)
	if e != api.OK || !like(m[1], api.Inst{Id: 2, Mult: 1, Price: 5, Next: high, Moves: []int64{1}}) || !like(m[0], l[0]) || l[1].Next != 6 {
		t.Error("Next", m, e)
	}
	for _, c := range []struct {
		id    int
		price int64
		e     api.Errno
	}{{3, 1, api.ErrNone}, {3, -1, api.ErrNone}, {2, -1, api.ErrArg}, {2, 1 << 31, api.ErrArg}} {
		if m, e := inst.Next(l, c.id, c.price); len(m) > 0 || e != c.e {
			t.Error("Next", c, m, e)
		}
	}
	s := inst.Settle(m)
	if s[0].Price != 4 || s[0].Next != 4 || s[1].Price != high || s[1].Next != high || m[0].Price != 3 {
		t.Error("Settle", s)
	}
	if s[1].Moves[0] = 2; m[1].Moves[0] != 1 {
		t.Error("shared")
	}
	if len(inst.Settle(nil)) != 0 {
		t.Error("Settle of nothing")
	}
}

func TestP13_2(t *testing.T) {
	i := api.Inst{Id: 1, Mult: 10, Moves: []int64{2, -3}}
	for _, c := range []struct {
		qty, from, to, want int64
		e                   api.Errno
	}{
		{3, 5, 7, 60, api.OK}, {-3, 5, 7, -60, api.OK}, {3, 7, 5, -60, api.OK}, {most, 4, 4, 0, api.OK}, {1, -1, 0, 0, api.ErrArg}, {1, 0, -1, 0, api.ErrArg},
		{1, 1 << 31, 0, 0, api.ErrArg}, {1, 0, 1 << 31, 0, api.ErrArg}, {most, 0, 1, 0, api.ErrRange}, {least, 0, high, 0, api.ErrRange},
		{most / 10, 0, 1, most / 10 * 10, api.OK}, {most/10 + 1, 0, 1, 0, api.ErrRange},
	} {
		if n, e := inst.Gain(i, c.qty, c.from, c.to); n != c.want || e != c.e {
			t.Error("Gain", c, n, e)
		}
	}
	for _, b := range bad {
		if n, e := inst.Gain(b, 1, -1, 0); n != 0 || e != api.ErrArg || wide.Sign(inst.Shock(b, 1, 0)) != 0 {
			t.Error("of none", b, n, e)
		}
	}
	for scen, want := range []int64{8 * 10, -12 * 10, 0} {
		if w := inst.Shock(i, 4, scen); w != wide.Of(want) {
			t.Error("Shock", scen, wide.Text(w))
		}
	}
	for _, scen := range []int{-1, 8, least, most} {
		if wide.Sign(inst.Shock(i, 4, scen)) != 0 {
			t.Error("Shock", scen)
		}
	}
	far := api.Inst{Id: 8, Mult: 1 << 16, Moves: []int64{-high}}
	want := new(big.Int).Mul(big.NewInt(least), big.NewInt(-high))
	if w := inst.Shock(far, least, 0); wide.Text(w) != want.Lsh(want, 16).String() {
		t.Error("Shock", wide.Text(w))
	}
}

func TestP13_3(t *testing.T) {
	i := api.Inst{Id: 1, Mult: 7}
	for qty := int64(-5); qty < 6; qty++ {
		for to := range int64(9) {
			a, _ := inst.Gain(i, qty, 4, to)
			b, _ := inst.Gain(i, -qty, 4, to)
			c, _ := inst.Gain(i, qty, to, 4)
			if a != -b || a+c != 0 {
				t.Error(qty, to, a, b, c)
			}
		}
	}
}

func TestP13_1_First(t *testing.T) {
	l := []api.Inst{{Id: 1, Mult: 1, Price: 5, Next: 6, Moves: []int64{1}}}
	if i, ok := inst.Find(l, 1); !ok || i.Price != 5 {
		t.Error("Find the first", i, ok)
	}
	m, e := inst.Next(l, 1, 0)
	if e != api.OK || m[0].Next != 0 || l[0].Next != 6 {
		t.Error("Next of the first", m, e)
	}
	if x, e := inst.Put(l, api.Inst{Id: 1, Mult: 1}); len(x) > 0 || e != api.ErrThere {
		t.Error("the first is there", x, e)
	}
	moves := []int64{2}
	p, _ := inst.Put(l, api.Inst{Id: 2, Mult: 1, Moves: moves})
	if l[0].Moves[0], moves[0] = 8, 8; m[0].Moves[0] != 1 || p[0].Moves[0] != 1 || p[1].Moves[0] != 2 {
		t.Error("shared", m, p)
	}
	if n, e := inst.Gain(l[0], 1, 0, high); n != high || e != api.OK {
		t.Error("from nothing to the most", n, e)
	}
}
